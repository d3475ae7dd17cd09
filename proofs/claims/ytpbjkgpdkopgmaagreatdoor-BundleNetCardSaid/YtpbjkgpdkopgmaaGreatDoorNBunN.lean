/- BundleNet: the law returns true and leaves memory as it was. -/
import Derived.Test.YtpbjkgpdkopgmaaGreatDoorNBunO
set_option linter.unusedVariables false
set_option linter.unusedSimpArgs false
namespace Go.Proofs.YtpbjkgpdkopgmaaGreatDoor
open Go.RowKit

set_option maxRecDepth 100000 in
set_option maxHeartbeats 12800000 in
theorem BundleNet_walk (w : World) (ht : TabK w) (hm : MaxC w) (A : Nat → Option Addr) (n c : Nat → Nat) (L : Nat → List UInt8) (r : UInt8) (hR : ∀ i, i < 5 → Rd bv w (A i) (L i) ∧ (L i).length = n i) :
    Calls Tryz.prog 5 #[.agg #[.slice (A 0) (n 0) (c 0), .slice (A 1) (n 1) (c 1), .slice (A 2) (n 2) (c 2), .slice (A 3) (n 3) (c 3), .slice (A 4) (n 4) (c 4)], .int .u8 (r.toNat : Int)] w fun e w' => e = .returned (.bool true) ∧ Below w.heap.size w w' := by
  have HT := Lib.hid ht
  have HM := Lib.hid hm
  have HR := Lib.hid hR
  obtain ⟨Q, hQ⟩ : ∃ Q, Hid (r.toNat % 5 = Q) := ⟨_, rfl⟩
  have HQ5 : Q < 5 := by have := hQ.out; omega
  have hrem : ((r.toNat : Int)).tmod 5 = (Q : Int) := by have := hQ.out; rw [Int.tmod_eq_emod_of_nonneg (by omega)]; omega
  obtain ⟨gL, hgL⟩ : ∃ g, w.heap.size = g := ⟨_, rfl⟩
  clear ht hm hR
  go_enter Tryz.func5, Tryz.ntmps5
  go_upto_region 1 with (fail)
  have hB := Blk.new w #[.slice (A 0) (n 0) (c 0), .slice (A 1) (n 1) (c 1), .slice (A 2) (n 2) (c 2), .slice (A 3) (n 3) (c 3), .slice (A 4) (n 4) (c 4)] 56
  have HN1 : Hid (Nx w (w.alloc (.cells #[.slice (A 0) (n 0) (c 0), .slice (A 1) (n 1) (c 1), .slice (A 2) (n 2) (c 2), .slice (A 3) (n 3) (c 3), .slice (A 4) (n 4) (c 4)] 56))) := nx0 _ _
  rw [hgL] at hB
  have HB := Lib.hid hB
  generalize World.alloc w _ = w1 at *
  clear hB
  go_wp2_with fail
  refine (bubegun_any w1 (HT.out.nx HN1.out) (HM.out.nx HN1.out)).mono ?_; rintro e w2 ⟨rfl, hb⟩
  have HN2 := Lib.hid (HN1.out.trans hb)
  have HB2 := Lib.hid (HB.out.below hb)
  clear hb HN1 HB
  obtain ⟨gN, hgN⟩ : ∃ g, w2.heap.size = g := ⟨_, rfl⟩
  go_upto_region 4 with (fail)
  have hBN := Blk.new w2 nmA 9
  rw [hgN, show nmA = #[.string ⟨#[97]⟩, .string ⟨#[98]⟩, .string ⟨#[99]⟩, .string ⟨#[100]⟩, .string ⟨#[101]⟩] from rfl] at hBN
  have HN3 : Hid (Nx w2 (w2.alloc (.cells #[.string ⟨#[97]⟩, .string ⟨#[98]⟩, .string ⟨#[99]⟩, .string ⟨#[100]⟩, .string ⟨#[101]⟩] 9))) := nx0 _ _
  generalize World.alloc w2 _ = w3 at *
  have HBN : Hid (Blk w3 gN gN nmA 9) := hBN
  clear hBN
  have HB3 := Lib.hid (HB2.out.below HN3.out)
  have hne : gL ≠ gN := by have := HB2.out.lt; omega
  have HWN := Lib.hid (HN2.out.trans HN3.out)
  have hle : gL ≤ gN := by have := HB2.out.lt; omega
  clear HB2 HN2 HN3 hgN
  obtain ⟨g6, hg6⟩ : ∃ g, w3.heap.size = g := ⟨_, rfl⟩
  obtain ⟨g7, hg7⟩ : ∃ g, g6 + 1 = g := ⟨_, rfl⟩
  have cN : w3.cell? ⟨gN, Q, none⟩ = some (.string ⟨(nm Q).toArray⟩) := by rw [HBN.out.cell]; exact nmA_get HQ5
  have hQ5 : (Q : Int) < 5 := by omega
  go_upto_region 6 with (fail)
  obtain ⟨Av, hAv⟩ : ∃ Av : Array Value, Av = #[.slice (A 0) (n 0) (c 0), .slice (A 1) (n 1) (c 1), .slice (A 2) (n 2) (c 2), .slice (A 3) (n 3) (c 3), .slice (A 4) (n 4) (c 4)] := ⟨_, rfl⟩
  have HAV : Hid (∀ i, i < 5 → Av[i]? = some (.slice (A i) (n i) (c i))) := by
    intro i hi
    rcases (show i = 0 ∨ i = 1 ∨ i = 2 ∨ i = 3 ∨ i = 4 by omega) with rfl | rfl | rfl | rfl | rfl <;> rw [hAv] <;> rfl
  obtain ⟨w4, hw4⟩ : ∃ w4, (w3.alloc (.cells #[.string ⟨(nm Q).toArray⟩, .slice none 0 0] 41)).alloc (.cells #[.bool false, .bool false, .bool false, .bool false, .bool false, .bool false, .bool false, .bool false, .bool false, .bool false, .bool false, .bool false, .bool false, .bool false, .bool false, .bool false, .bool false, .bool false, .bool false, .bool false, .bool false, .bool false, .bool false, .bool false, .bool false] 58) = w4 := ⟨_, rfl⟩
  have HS4 : Hid (Nst w gL gN g6 g7 Av (nm Q) (.slice none 0 0) [] (fun _ _ => false) w4) := by
    unfold Hid; rw [← hw4]
    have hb6 := Blk.new w3 #[.string ⟨(nm Q).toArray⟩, .slice none 0 0] 41
    have hb7 := Blk.new (w3.alloc (.cells #[.string ⟨(nm Q).toArray⟩, .slice none 0 0] 41)) (mat (fun _ _ => false)) 58
    have e7 : (w3.alloc (.cells #[.string ⟨(nm Q).toArray⟩, .slice none 0 0] 41)).heap.size = g7 := by rw [← hg7, ← hg6]; simp
    rw [hg6] at hb6
    rw [e7] at hb7
    have hl := HBN.out.lt
    have hbL := (((HB3.out.alloc (.cells #[.string ⟨(nm Q).toArray⟩, .slice none 0 0] 41)).alloc (.cells (mat (fun _ _ => false)) 58)).less (B' := w.heap.size) (by omega))
    rw [← hAv] at hbL
    refine ⟨Nx.al (Nx.al HWN.out _) _, hbL, ((HBN.out.alloc _).alloc _).less (by omega), (hb6.alloc _).less (by omega), hb7.less (by omega), ⟨by omega, by omega, by omega, by omega, by omega⟩, RepL.nil_⟩
  rw [hw4]
  clear hw4 cN hAv
  go_upto_region 6 with (fail)
  go_wp2_with fail
  go_loopw [8] (fun v wr => ∃ i : Nat, v = .int .i64 i ∧ i ≤ 5 ∧ (∃ fv, Nst w gL gN g6 g7 Av (nm Q) fv ((srcs L).take i) (fun a b => decide (a < i) && incB L a b) wr) ∧ ∀ a, a < i → (L a).length ≤ 4) (fun v _ => (5 - intOf v).toNat)
  case atStart => exact ⟨0, rfl, by decide, ⟨_, HS4.out.eqM (fun a b _ _ => by simp)⟩, fun a h => by omega⟩
  case round =>
    obtain ⟨i, rfl, hi, ⟨fv, hs⟩, hl4⟩ := hrel
    have HSR := Lib.hid hs
    have HL4 := Lib.hid hl4
    clear hs hl4
    by_cases hlt : i < 5
    · have cL : wr.cell? ⟨gL, i, none⟩ = some (.slice (A i) (n i) (c i)) := by rw [HSR.out.bL.cell]; exact HAV.out i hlt
      obtain ⟨hrd, hnl⟩ := HR.out i hlt
      have hi5 : (i : Int) < 5 := by omega
      by_cases h4 : 4 < n i
      · have t4 : decide ((4 : Int) < (n i : Int)) = true := by rw [decide_eq_true_eq]; omega
        clear hrd hnl h4
        go_wp2_with fail
        go_ret
        exact ⟨rfl, HSR.out.nx⟩
      · have t4 : decide ((4 : Int) < (n i : Int)) = false := by rw [decide_eq_false_iff_not]; omega
        have HRD := Lib.hid hrd
        have HNL := Lib.hid hnl
        have hn4 : (n i : Int) ≤ 4 := by omega
        clear hrd hnl h4
        go_upto_region 12 with (fail)
        go_wp2_with fail
        go_loopw [9, 10] (fun u v wr => ∃ (k : Nat) (tx : ByteArray), u = .string tx ∧ v = .int .i64 k ∧ Hid (Tx tx (tOf ((L i).take k))) ∧ k ≤ n i ∧ Nst w gL gN g6 g7 Av (nm Q) fv ((srcs L).take i) (fun a b => (decide (a < i) && incB L a b) || (decide (a = i) && ((L i).take k).any fun x => decide (x.toNat % 5 = b))) wr) (fun _ v _ => (n i - intOf v).toNat)
        case atStart => exact ⟨0, ⟨#[]⟩, rfl, rfl, rfl, Nat.zero_le _, HSR.out.eqM (fun a b _ _ => by simp)⟩
        case round =>
          obtain ⟨k, tx, rfl, rfl, htx, hk, hs⟩ := hrel
          have HSK := Lib.hid hs
          have cK : wr.cell? ⟨gL, i, none⟩ = some (.slice (A i) (n i) (c i)) := by rw [hs.bL.cell]; exact HAV.out i hlt
          clear hs
          by_cases hkn : k < n i
          · have hkl : k < (L i).length := by rw [HNL.out]; exact hkn
            obtain ⟨gb, off, hA, hgb, hcb⟩ := HRD.out.at_ hkl
            obtain ⟨x, hx⟩ : ∃ x, (L i)[k] = x := ⟨_, rfl⟩
            rw [hx] at hcb
            rw [hA] at cK
            obtain ⟨y, hy⟩ : ∃ y, Hid (x.toNat % 5 = y) := ⟨_, rfl⟩
            have hy5 : y < 5 := by have := hy.out; omega
            have hyI : (y : Int) < 5 := by omega
            have hry : ((x.toNat : Int)).tmod 5 = (y : Int) := by have := hy.out; rw [Int.tmod_eq_emod_of_nonneg (by omega)]; omega
            have cx : wr.cell? ⟨gb, off + k, none⟩ = some (.int .u8 (x.toNat : Int)) := (HSK.out.nx.cell (p := ⟨gb, off + k, none⟩) hgb).trans hcb
            have cy : wr.cell? ⟨gN, y, none⟩ = some (.string ⟨(nm y).toArray⟩) := by rw [HSK.out.bN.cell]; exact nmA_get hy5
            have hkI : (k : Int) < (n i : Int) := by omega
            have tk : decide ((k : Int) < (n i : Int)) = true := by rw [decide_eq_true_eq]; exact hkI
            have hsz : tx.size ≤ 48 := by have := htx.out.size; rw [this, tOf_len, List.length_take]; omega
            have hny : (nm y).length = 1 := rfl
            have z1 : ¬ 9223372036854775807 < tx.size + 9 := by omega
            have z2 : ¬ 9223372036854775807 < tx.size + 9 + (nm y).length := by omega
            have z3 : ¬ 9223372036854775807 < tx.size + 9 + (nm y).length + 2 := by omega
            clear hny hsz
            go_upto_region 16 with (fail)
            clear z1 z2 z3 cy
            obtain ⟨t2, ht2⟩ : ∃ t2, tx ++ ⟨#[105, 110, 99, 108, 117, 100, 101, 32, 39]⟩ ++ ⟨(nm y).toArray⟩ ++ ⟨#[39, 10]⟩ = t2 := ⟨_, rfl⟩
            have HT2 : Hid (Tx t2 (tOf ((L i).take (k + 1)))) := by
              unfold Hid
              rw [tOf_snoc _ hkl, hx, ← ht2]
              have := ((htx.out.app (Tx.of [105, 110, 99, 108, 117, 100, 101, 32, 39])).app (Tx.of (nm y))).app (Tx.of [39, 10])
              unfold incT
              rw [hy.out]
              simp only [List.append_assoc] at this ⊢
              exact this
            rw [ht2]
            clear ht2
            have HEQ : Hid (∀ a b, a < 5 → b < 5 → updM (fun a b => (decide (a < i) && incB L a b) || (decide (a = i) && ((L i).take k).any fun x => decide (x.toNat % 5 = b))) i y true a b = ((decide (a < i) && incB L a b) || (decide (a = i) && ((L i).take (k + 1)).any fun x => decide (x.toNat % 5 = b)))) := by
              intro a b _ _
              unfold updM
              rw [List.take_succ_eq_append_getElem hkl, hx, List.any_append]
              simp only [List.any_cons, List.any_nil, Bool.or_false, hy.out]
              by_cases ha : a = i
              · subst ha
                by_cases hb : b = y
                · subst hb; simp
                · have hb' : ¬ y = b := fun e => hb e.symm
                  simp [hb, hb']
              · simp [ha]
            have M1 : ∀ x : Gr wr, x.1.cell? ⟨gL, i, none⟩ = some (.slice (some ⟨gb, off, none⟩) (n i) (c i)) := fun x => by rw [← cK]; exact x.2.cell (p := ⟨gL, i, none⟩) HSK.out.bL.lt
            have M2 : ∀ z : Gr wr, z.1.cell? ⟨gb, off + k, none⟩ = some (.int .u8 (x.toNat : Int)) := fun z => by rw [← cx]; exact z.2.cell (p := ⟨gb, off + k, none⟩) (Nat.lt_of_lt_of_le hgb HSK.out.nx.size)
            clear cK cx hcb hA hx hgb
            refine EH.wp_region_hyb [10] [(0, 1), (1, 1), (2, 1), (3, 1), (4, 1), (5, 1), (6, 1), (7, 1), (8, 1), (9, 1), (10, 0)] rfl (by kernel_rfl) ?_
            iterate 10 (refine EH.hyb_calm rfl (fun K hK => ?_); go_simp; refine hK _ ?_; clear hK K)
            clear M1 M2
            refine EH.hyb_alone rfl (fun w5 hn5 K hK => ?_)
            have hs5 := HSK.out.next hn5
            have c7 : w5.cell? ⟨g7, i * 5 + y, none⟩ = some _ := (hs5.b7.cell (i * 5 + y)).trans (mat_get _ hlt hy5)
            have f7 := hs5.b7.free (i * 5 + y)
            go_simp
            refine hK _ _ (.inl (by simp)) ?_
            clear hK K c7 f7
            have HS6 := Lib.hid ((hs5.setM hlt hy5 true).eqM HEQ.out)
            generalize World.setCell _ _ _ = w6 at *
            refine EH.hyb_nil (fun w7 hn7 => ?_)
            have HS7 := Lib.hid (HS6.out.next hn7)
            clear hn7 hs5 hn5
            go_wp2_with fail
            go_roundw
            case rel => exact ⟨k + 1, t2, rfl, by go_num, HT2.out, hkn, HS7.out⟩
            case measure => simp [intOf]; omega
          · have hkn' : k = n i := by omega
            have hall : (L i).take k = L i := List.take_of_length_le (by rw [HNL.out]; omega)
            rw [hall] at htx HSK
            obtain rfl := htx.out.eq
            have HSX := Lib.hid (HSK.out.eqM (M' := fun a b => decide (a < i + 1) && incB L a b) (fun a b _ _ => by
              by_cases ha : a = i
              · subst ha; simp [incB]
              · have : (decide (a < i + 1)) = decide (a < i) := by
                  rw [Bool.eq_iff_iff]; simp; omega
                simp [ha, this]))
            obtain ⟨ys, hys⟩ : ∃ ys, Hid ((srcs L).take i = ys) := ⟨_, rfl⟩
            have HYL : Hid (ys.length = i) := by unfold Hid; rw [← hys.out, List.length_take, srcs_len]; omega
            rw [hys.out] at HSX
            obtain ⟨fA, fc, -, rfl, -, -, -, -, -⟩ := RepL.sl srcC_size HSX.out.fl
            have tk : decide ((k : Int) < (n i : Int)) = false := by rw [decide_eq_false_iff_not]; omega
            have HL5 : Hid (∀ a, a < i + 1 → (L a).length ≤ 4) := by
              intro a ha
              rcases Nat.lt_or_ge a i with h | h
              · exact HL4.out a h
              · obtain rfl : a = i := by omega
                rw [HNL.out]; omega
            have HYS : Hid ((srcs L).take (i + 1) = ys ++ [(nm i, tOf (L i))]) := by unfold Hid; rw [srcs_take L hlt, hys.out]
            clear hall htx HSK hk hkn'
            go_upto_region 17 with (fail)
            have M1 : ∀ x : Gr wr, x.1.cell? ⟨g6, 1, none⟩ = some (.slice fA ys.length fc) := fun x => (HSX.out.next x.2).b6.cell 1
            have M2 : ∀ x : Gr wr, x.1.cell? ⟨gN, i, none⟩ = some (.string ⟨(nm i).toArray⟩) := fun x => by rw [(HSX.out.next x.2).bN.cell]; exact nmA_get hlt
            refine EH.wp_region_hyb [9, 11] [(0, 1), (1, 1), (2, 1), (3, 1), (4, 1), (5, 1), (6, 1), (7, 1), (8, 0), (9, 0), (10, 2), (11, 0)] rfl (by kernel_rfl) ?_
            iterate 8 (refine EH.hyb_calm rfl (fun K hK => ?_); go_simp; refine hK _ ?_; clear hK K)
            clear M1 M2 cK
            refine EH.hyb_alone rfl (fun w5 hn5 K hK => ?_)
            go_simp
            refine hK _ _ (.inr (nx0 _ _)) ?_
            clear hK K
            obtain ⟨g9, hg9⟩ : ∃ g, w5.heap.size = g := ⟨_, rfl⟩
            have hb9 := Blk.new w5 #[.string ⟨(nm i).toArray⟩, .string ⟨(tOf (L i)).toArray⟩] 43
            rw [hg9] at hb9 ⊢
            have hn6 : Nx wr (w5.alloc (.cells #[.string ⟨(nm i).toArray⟩, .string ⟨(tOf (L i)).toArray⟩] 43)) := hn5.trans (nx0 _ _)
            generalize World.alloc w5 _ = w6 at *
            refine EH.hyb_alone rfl (fun w7 hn7 K hK => ?_)
            refine EH.ite_intro rfl ?_
            have HN7 : Hid (Nx wr w7) := hn6.trans hn7
            have hs7 := HSX.out.next HN7.out
            refine op_appP w7 REq.lasts infoQ Tryz.underlying39 rfl (by decide) (by decide) srcC_size _ _ rfl (fun k => w.heap.size ≤ k ∧ k ≠ gL ∧ k ≠ gN ∧ k ≠ g6 ∧ k ≠ g7) _ _ (nm i, tOf (L i)) (nm i, tOf (L i)) rfl hs7.fl (fun u hu => by simp [srcC] at hu; rcases hu with rfl | rfl <;> rfl) g9 rfl (fun j hj => (hb9.below hn7).cell j) rfl (by rw [HYL.out]; omega) (fun j hj => ⟨Nat.le_trans hs7.nx.size hj, (hs7.fresh hj).1, (hs7.fresh hj).2.1, (hs7.fresh hj).2.2.1, (hs7.fresh hj).2.2.2⟩) ?_
            intro v8 w8 hr8 hg8
            refine hK _ _ (.inl (by simp)) ?_
            clear hK K
            obtain ⟨fA2, fc2, -, hv8, -, -, -, -, -⟩ := RepL.sl srcC_size hr8
            obtain rfl : v8 = .slice fA2 (ys.length + 1) fc2 := by rw [hv8, List.length_append]; rfl
            clear hv8
            refine EH.hyb_pure rfl (fun K hK => ?_); go_simp; refine hK _ ?_; clear hK K
            refine EH.hyb_alone rfl (fun w9 hn9 K hK => ?_)
            have hg9' : Gx (.slice fA ys.length fc) w7 (.slice fA2 (ys.length + 1) fc2) w9 := hg8.trans (Gx.nx hn9 _)
            have hr9 := hr8.mv REq.lasts (w' := w9) (Q := fun k => w.heap.size ≤ k ∧ k ≠ gL ∧ k ≠ gN ∧ k ≠ g6 ∧ k ≠ g7) ⟨fun k _ hl => hn9.block k hl, fun k hp _ => hp⟩
            have hs10 := HSX.out.add HN7.out hr9 hg9'
            have hb69 : Blk w9 w.heap.size g6 #[bt (nm Q), .slice fA ys.length fc] 41 := ⟨hs7.b6.1, by rw [hg9'.block _ hs7.b6.lt (fun e => (hs7.own _ e).1.2.2.2.1 rfl)]; exact hs7.b6.2⟩
            have c9 : w9.cell? ⟨g6, 1, none⟩ = some (.slice fA ys.length fc) := hb69.cell 1
            have f9 := hb69.free 1
            go_simp
            refine hK _ _ (.inl (by simp)) ?_
            clear hK K c9 f9 hb69
            have HS10 := Lib.hid hs10
            clear hs10 hr9 hg9' hr8 hg8 hb9 hn6 hn7 hs7 hn9 hg9 hn5
            generalize World.setCell _ _ _ = w10 at *
            refine EH.hyb_nil (fun w11 hn11 => ?_)
            have HS11 : Hid (Nst w gL gN g6 g7 Av (nm Q) (.slice fA2 (ys.length + 1) fc2) ((srcs L).take (i + 1)) (fun a b => decide (a < i + 1) && incB L a b) w11) := by
              unfold Hid; rw [HYS.out]; exact HS10.out.next hn11
            clear hn11
            go_wp2_with fail
            go_roundw
            case rel => exact ⟨i + 1, by go_num, hlt, ⟨_, HS11.out⟩, HL5.out⟩
            case measure => simp [intOf]; omega
    · obtain rfl : i = 5 := by omega
      rw [show ((5 : Nat) : Int) = 5 from rfl]
      rw [show (srcs L).take 5 = srcs L from rfl] at HSR
      have HS5 := Lib.hid (HSR.out.eqM (M' := incB L) (fun a b ha _ => by simp [ha]))
      clear HSR hlt hi HS4 HBN HB3
      go_upto_region 18 with (fail)
      obtain ⟨gC, hgC⟩ : ∃ g, wr.heap.size = g := ⟨_, rfl⟩
      have HC0 : Hid (Cst w gL gN g6 g7 gC Av (nm Q) fv (srcs L) (incB L) (fun _ _ => false) (wr.alloc (.cells (mat (fun _ _ => false)) 58))) := by
        have hb := Blk.new wr (mat (fun _ _ => false)) 58
        rw [hgC] at hb
        have hf := HS5.out.fresh (k := gC) (Nat.le_of_eq hgC)
        exact ⟨HS5.out.next (nx0 _ _), hb.less (by have := HS5.out.nx.size; omega), hf.1, hf.2.1, hf.2.2.1, hf.2.2.2, fun e => by have := (HS5.out.own _ e).2; omega⟩
      rw [mat_false] at HC0
      go_upto_region 19 with (fail)
      generalize World.alloc wr _ = w5 at *
      clear hgC
      go_wp2_with fail
      go_loopw [12] (fun v wr => ∃ i : Nat, v = .int .i64 i ∧ i ≤ 5 ∧ Cst w gL gN g6 g7 gC Av (nm Q) fv (srcs L) (incB L) (fun a b => decide (a < i) && incB L a b) wr) (fun v _ => (5 - intOf v).toNat)
      case atStart => exact ⟨0, rfl, by decide, HC0.out.eqC (fun a b _ _ => by simp)⟩
      case round =>
        obtain ⟨i, rfl, hi, hc⟩ := hrel
        have HC := Lib.hid hc
        clear hc
        by_cases hlt : i < 5
        · have s0 : wr.cell? ⟨g7, i * 5, none⟩ = some (.bool (incB L i 0)) := HC.out.inc hlt (show 0 < 5 by omega)
          have s1 : wr.cell? ⟨g7, i * 5 + 1, none⟩ = some (.bool (incB L i 1)) := HC.out.inc hlt (show 1 < 5 by omega)
          have s2 : wr.cell? ⟨g7, i * 5 + 2, none⟩ = some (.bool (incB L i 2)) := HC.out.inc hlt (show 2 < 5 by omega)
          have s3 : wr.cell? ⟨g7, i * 5 + 3, none⟩ = some (.bool (incB L i 3)) := HC.out.inc hlt (show 3 < 5 by omega)
          have s4 : wr.cell? ⟨g7, i * 5 + 4, none⟩ = some (.bool (incB L i 4)) := HC.out.inc hlt (show 4 < 5 by omega)
          have d0 : wr.cell? ⟨gC, i * 5, none⟩ = some _ := HC.out.cell hlt (show 0 < 5 by omega)
          have d1 : wr.cell? ⟨gC, i * 5 + 1, none⟩ = some _ := HC.out.cell hlt (show 1 < 5 by omega)
          have d2 : wr.cell? ⟨gC, i * 5 + 2, none⟩ = some _ := HC.out.cell hlt (show 2 < 5 by omega)
          have d3 : wr.cell? ⟨gC, i * 5 + 3, none⟩ = some _ := HC.out.cell hlt (show 3 < 5 by omega)
          have d4 : wr.cell? ⟨gC, i * 5 + 4, none⟩ = some _ := HC.out.cell hlt (show 4 < 5 by omega)
          have f0 := HC.out.free (i * 5)
          have f1 := HC.out.free (i * 5 + 1)
          have f2 := HC.out.free (i * 5 + 2)
          have f3 := HC.out.free (i * 5 + 3)
          have f4 := HC.out.free (i * 5 + 4)
          have HR5 := Lib.hid (HC.out.row (C' := fun a b => decide (a < i + 1) && incB L a b) hlt (fun a b _ _ => by
            by_cases ha : a = i
            · subst ha; simp
            · have : (decide (a < i + 1)) = decide (a < i) := by
                rw [Bool.eq_iff_iff]; simp; omega
              simp [ha, this]))
          have hi5 : (i : Int) < 5 := by omega
          go_wp2_with fail
          go_roundw
          case rel => exact ⟨i + 1, by go_num, hlt, HR5.out⟩
          case measure => simp [intOf]; omega
        · obtain rfl : i = 5 := by omega
          rw [show ((5 : Nat) : Int) = 5 from rfl]
          have HC5 := Lib.hid (HC.out.eqC (C' := Wa (incB L) 0) (fun a b ha _ => by simp [ha, Wa]))
          clear HC hlt hi HC0 HS5
          go_wp2_with fail
          go_loopw [13] (fun v wr => ∃ k : Nat, v = .int .i64 k ∧ k ≤ 5 ∧ Cst w gL gN g6 g7 gC Av (nm Q) fv (srcs L) (incB L) (Wa (incB L) k) wr) (fun v _ => (5 - intOf v).toNat)
          case atStart => exact ⟨0, rfl, by decide, HC5.out⟩
          case round =>
            obtain ⟨k, rfl, hk, hc⟩ := hrel
            have HC := Lib.hid hc
            clear hc
            by_cases hk5 : k < 5
            · have hkI : (k : Int) < 5 := by omega
              go_wp2_with fail
              go_loopw [14] (fun v wr => ∃ i : Nat, v = .int .i64 i ∧ i ≤ 5 ∧ Cst w gL gN g6 g7 gC Av (nm Q) fv (srcs L) (incB L) (fun a b => if a < i then Wa (incB L) (k + 1) a b else Wa (incB L) k a b) wr) (fun v _ => (5 - intOf v).toNat)
              case atStart => exact ⟨0, rfl, by decide, HC.out.eqC (fun a b _ _ => by simp)⟩
              case round =>
                obtain ⟨i, rfl, hi, hc⟩ := hrel
                have HC := Lib.hid hc
                clear hc
                by_cases hi5 : i < 5
                · have hiI : (i : Int) < 5 := by omega
                  go_wp2_with fail
                  go_loopw [15] (fun v wr => ∃ m : Nat, v = .int .i64 m ∧ m ≤ 5 ∧ Cst w gL gN g6 g7 gC Av (nm Q) fv (srcs L) (incB L) (fun a b => if a < i ∨ (a = i ∧ b < m) then Wa (incB L) (k + 1) a b else Wa (incB L) k a b) wr) (fun v _ => (5 - intOf v).toNat)
                  case atStart => exact ⟨0, rfl, by decide, HC.out.eqC (fun a b _ _ => by simp)⟩
                  case round =>
                    obtain ⟨m, rfl, hm, hc⟩ := hrel
                    have HC := Lib.hid hc
                    clear hc
                    by_cases hm5 : m < 5
                    · have hmI : (m : Int) < 5 := by omega
                      obtain ⟨X, hX⟩ : ∃ X, Hid (Wa (incB L) k i m = X) := ⟨_, rfl⟩
                      obtain ⟨Y, hY⟩ : ∃ Y, Hid (Wa (incB L) k i k = Y) := ⟨_, rfl⟩
                      obtain ⟨Z, hZ⟩ : ∃ Z, Hid (Wa (incB L) k k m = Z) := ⟨_, rfl⟩
                      have hv1 : (if i < i ∨ (i = i ∧ m < m) then Wa (incB L) (k + 1) i m else Wa (incB L) k i m) = X := by
                        rw [if_neg (by omega)]; exact hX.out
                      have hv2 : (if i < i ∨ (i = i ∧ k < m) then Wa (incB L) (k + 1) i k else Wa (incB L) k i k) = Y := by
                        rw [Wa.row, ite_self]; exact hY.out
                      have hv3 : (if k < i ∨ (k = i ∧ m < m) then Wa (incB L) (k + 1) k m else Wa (incB L) k k m) = Z := by
                        rw [Wa.col, ite_self]; exact hZ.out
                      have M1 : ∀ x : Gr wr, x.1.cell? ⟨gC, i * 5 + m, none⟩ = some (.bool X) := fun x => by rw [(HC.out.next x.2).cell hi5 hm5, hv1]
                      have M2 : ∀ x : Gr wr, x.1.cell? ⟨gC, i * 5 + k, none⟩ = some (.bool Y) := fun x => by rw [(HC.out.next x.2).cell hi5 hk5, hv2]
                      have M3 : ∀ x : Gr wr, x.1.cell? ⟨gC, k * 5 + m, none⟩ = some (.bool Z) := fun x => by rw [(HC.out.next x.2).cell hk5 hm5, hv3]
                      have HEQ : Hid (∀ a b, a < 5 → b < 5 → updM (fun a b => if a < i ∨ (a = i ∧ b < m) then Wa (incB L) (k + 1) a b else Wa (incB L) k a b) i m (X || (Y && Z)) a b = if a < i ∨ (a = i ∧ b < m + 1) then Wa (incB L) (k + 1) a b else Wa (incB L) k a b) := by
                        intro a b _ _
                        unfold updM
                        by_cases h : a = i ∧ b = m
                        · obtain ⟨rfl, rfl⟩ := h
                          rw [if_pos ⟨rfl, rfl⟩, if_pos (by omega), ← hX.out, ← hY.out, ← hZ.out]
                          rfl
                        · rw [if_neg h]
                          by_cases h2 : a < i ∨ (a = i ∧ b < m)
                          · simp only [if_pos h2]; rw [if_pos (by omega)]
                          · simp only [if_neg h2]; rw [if_neg (by omega)]
                      clear hX hY hZ hv1 hv2 hv3
                      go_upto_region 32 with (fail)
                      have m1 : wr.drew.cell? ⟨gC, i * 5 + m, none⟩ = some (.bool X) := M1 ⟨wr.drew, Nx.drewN wr 1⟩
                      have m2 : wr.drew.cell? ⟨gC, i * 5 + k, none⟩ = some (.bool Y) := M2 ⟨wr.drew, Nx.drewN wr 1⟩
                      have m3 : wr.drew.cell? ⟨gC, k * 5 + m, none⟩ = some (.bool Z) := M3 ⟨wr.drew, Nx.drewN wr 1⟩
                      have n1 : wr.cell? ⟨gC, i * 5 + m, none⟩ = some (.bool X) := M1 ⟨wr, Nx.refl wr⟩
                      have n2 : wr.cell? ⟨gC, i * 5 + k, none⟩ = some (.bool Y) := M2 ⟨wr, Nx.refl wr⟩
                      have n3 : wr.cell? ⟨gC, k * 5 + m, none⟩ = some (.bool Z) := M3 ⟨wr, Nx.refl wr⟩
                      have f7 : wr.frozen? ⟨gC, i * 5 + m, none⟩ = false := HC.out.free _
                      have HD : Hid (Nx wr wr.drew) := Nx.drewN wr 1
                      clear M1 M2 M3
                      cases X
                      · cases Y
                        · go_region
                          all_goals
                            clear m1 m2 m3 n1 n2 n3 f7
                            have HEQ1 := HEQ.out
                            simp only [Bool.false_or, Bool.true_or, Bool.false_and, Bool.true_and] at HEQ1
                            have HS7 := Lib.hid (Cst.drew_ ((HC.out.setC hi5 hm5 _).eqC HEQ1))
                            clear HEQ HEQ1
                            generalize World.drew _ = w7 at *
                            go_wp2_with fail
                            go_roundw
                            case rel => exact ⟨m + 1, by go_num, hm5, HS7.out⟩
                            case measure => simp [intOf]; omega
                        · go_region
                          all_goals
                            clear m1 m2 m3 n1 n2 n3 f7
                            have HEQ1 := HEQ.out
                            simp only [Bool.false_or, Bool.true_or, Bool.false_and, Bool.true_and] at HEQ1
                            have HS7 := Lib.hid (Cst.drew_ ((HC.out.setC hi5 hm5 _).eqC HEQ1))
                            clear HEQ HEQ1
                            generalize World.drew _ = w7 at *
                            go_wp2_with fail
                            go_roundw
                            case rel => exact ⟨m + 1, by go_num, hm5, HS7.out⟩
                            case measure => simp [intOf]; omega
                      · go_region
                        all_goals
                          clear m1 m2 m3 n1 n2 n3 f7
                          have HEQ1 := HEQ.out
                          simp only [Bool.false_or, Bool.true_or, Bool.false_and, Bool.true_and] at HEQ1
                          have HS7 := Lib.hid (Cst.drew_ ((HC.out.setC hi5 hm5 _).eqC HEQ1))
                          clear HEQ HEQ1
                          generalize World.drew _ = w7 at *
                          go_wp2_with fail
                          go_roundw
                          case rel => exact ⟨m + 1, by go_num, hm5, HS7.out⟩
                          case measure => simp [intOf]; omega
                    · obtain rfl : m = 5 := by omega
                      rw [show ((5 : Nat) : Int) = 5 from rfl]
                      have HC2 := Lib.hid (HC.out.eqC (C' := fun a b => if a < i + 1 then Wa (incB L) (k + 1) a b else Wa (incB L) k a b) (fun a b _ hb => by
                        by_cases h : a < i + 1
                        · rw [if_pos h, if_pos (by omega)]
                        · rw [if_neg h, if_neg (by omega)]))
                      go_wp2_with fail
                      go_roundw
                      case rel => exact ⟨i + 1, by go_num, hi5, HC2.out⟩
                      case measure => simp [intOf]; omega
                · obtain rfl : i = 5 := by omega
                  rw [show ((5 : Nat) : Int) = 5 from rfl]
                  have HC2 := Lib.hid (HC.out.eqC (C' := Wa (incB L) (k + 1)) (fun a b ha _ => by rw [if_pos ha]))
                  go_wp2_with fail
                  go_roundw
                  case rel => exact ⟨k + 1, by go_num, hk5, HC2.out⟩
                  case measure => simp [intOf]; omega
            · obtain rfl : k = 5 := by omega
              rw [show ((5 : Nat) : Int) = 5 from rfl]
              have HCF := Lib.hid HC.out
              clear HC hk hk5 HC5
              have hwQ : IntKind.i64.wrap (Q : Int) = (Q : Int) := wrapNat Q (by omega)
              go_upto_region 35 with (fail)
              go_wp2_with fail
              go_loopw [17, 18, 19] (fun u v x wr => ∃ i : Nat, x = .int .i64 i ∧ i ≤ 5 ∧ u = .int .i64 (cntI L Q i : Nat) ∧ v = .bool (cycI L Q i) ∧ Cst w gL gN g6 g7 gC Av (nm Q) fv (srcs L) (incB L) (Wa (incB L) 5) wr) (fun _ _ x _ => (5 - intOf x).toNat)
              case atStart => exact ⟨0, rfl, by decide, rfl, rfl, HCF.out⟩
              case round =>
                obtain ⟨i, rfl, hi, rfl, rfl, hc⟩ := hrel
                have HC := Lib.hid hc
                clear hc
                obtain ⟨N, hN⟩ : ∃ N, Hid (cntI L Q i = N) := ⟨_, rfl⟩
                obtain ⟨Y, hY⟩ : ∃ Y, Hid (cycI L Q i = Y) := ⟨_, rfl⟩
                rw [hN.out, hY.out]
                have hNle : (N : Int) ≤ 5 := by have := cntI_le L Q i; rw [hN.out] at this; omega
                by_cases hi5 : i < 5
                · have hiI : (i : Int) < 5 := by omega
                  obtain ⟨E, hE⟩ : ∃ E, ((i : Int) == (Q : Int)) = E := ⟨_, rfl⟩
                  obtain ⟨G, hG⟩ : ∃ G, Hid (Wa (incB L) 5 Q i = G) := ⟨_, rfl⟩
                  obtain ⟨Hh, hH⟩ : ∃ Hh, Hid (Wa (incB L) 5 i i = Hh) := ⟨_, rfl⟩
                  have cG : wr.cell? ⟨gC, Q * 5 + i, none⟩ = some (.bool G) := by rw [HC.out.cell HQ5 hi5, hG.out]
                  have cH : wr.cell? ⟨gC, i * 5 + i, none⟩ = some (.bool Hh) := by rw [HC.out.cell hi5 hi5, hH.out]
                  have HGOT : Hid (got5 L Q i = (E || G)) := by
                    unfold Hid got5
                    rw [hG.out, ← hE]
                    congr 1
                    rw [Bool.eq_iff_iff]; simp; omega
                  have HN1 : Hid (cntI L Q (i + 1) = if (E || G) = true then N + 1 else N) := by unfold Hid; rw [cntI_succ, HGOT.out, hN.out]
                  have HY1 : Hid (cycI L Q (i + 1) = (Y || ((E || G) && Hh))) := by unfold Hid; rw [cycI_succ, HGOT.out, hY.out, hH.out]
                  clear HCF
                  cases E
                  · cases G
                    · have HN2 : Hid (cntI L Q (i + 1) = N) := HN1.out
                      have HY2 : Hid (cycI L Q (i + 1) = Y) := by unfold Hid; rw [HY1.out]; simp
                      go_wp2_with fail
                      go_roundw
                      case rel => exact ⟨i + 1, by go_num, hi5, by rw [HN2.out], by rw [HY2.out], HC.out⟩
                      case measure => simp [intOf]; omega
                    · have HN2 : Hid (cntI L Q (i + 1) = N + 1) := HN1.out
                      have HY2 : Hid (cycI L Q (i + 1) = (Y || Hh)) := by unfold Hid; rw [HY1.out]; simp
                      cases Y
                      · go_wp2_with fail
                        go_roundw
                        case rel => exact ⟨i + 1, by go_num, hi5, by rw [HN2.out]; go_num, by rw [HY2.out]; rfl, HC.out⟩
                        case measure => simp [intOf]; omega
                      · go_wp2_with fail
                        go_roundw
                        case rel => exact ⟨i + 1, by go_num, hi5, by rw [HN2.out]; go_num, by rw [HY2.out]; rfl, HC.out⟩
                        case measure => simp [intOf]; omega
                  · have HN2 : Hid (cntI L Q (i + 1) = N + 1) := HN1.out
                    have HY2 : Hid (cycI L Q (i + 1) = (Y || Hh)) := by unfold Hid; rw [HY1.out]; simp
                    cases Y
                    · go_wp2_with fail
                      go_roundw
                      case rel => exact ⟨i + 1, by go_num, hi5, by rw [HN2.out]; go_num, by rw [HY2.out]; rfl, HC.out⟩
                      case measure => simp [intOf]; omega
                    · go_wp2_with fail
                      go_roundw
                      case rel => exact ⟨i + 1, by go_num, hi5, by rw [HN2.out]; go_num, by rw [HY2.out]; rfl, HC.out⟩
                      case measure => simp [intOf]; omega
                · obtain rfl : i = 5 := by omega
                  rw [show ((5 : Nat) : Int) = 5 from rfl]
                  have HL4 : Hid (∀ i, i < 5 → (L i).length ≤ 4) := HL4.out
                  have hnet := net5 L HL4.out Q HQ5
                  have hNW : Hid (N = want5 L Q) := hN.out.symm
                  have hYC : Hid (Y = cyc5 L Q) := hY.out.symm
                  obtain ⟨fA, fc, rfl, hrd⟩ := LQ.rdq HC.out.st.fl
                  have hok : SrcOk (srcs L) := by
                    intro x hx
                    simp only [srcs, List.mem_cons, List.not_mem_nil, or_false] at hx
                    have hlen : ∀ i, i < 5 → (tOf (L i)).length ≤ 140737488355328 := fun i hi => by rw [tOf_len]; have := HL4.out i hi; omega
                    rcases hx with rfl | rfl | rfl | rfl | rfl
                    · exact ⟨show (nm 0).length ≤ 8000 from by decide, hlen 0 (by decide)⟩
                    · exact ⟨show (nm 1).length ≤ 8000 from by decide, hlen 1 (by decide)⟩
                    · exact ⟨show (nm 2).length ≤ 8000 from by decide, hlen 2 (by decide)⟩
                    · exact ⟨show (nm 3).length ≤ 8000 from by decide, hlen 3 (by decide)⟩
                    · exact ⟨show (nm 4).length ≤ 8000 from by decide, hlen 4 (by decide)⟩
                  obtain ⟨⟨ns, fs, oe, of, oa⟩, ho⟩ : ∃ o, outV (nm Q) (srcs L) = o := ⟨_, rfl⟩
                  have HLD := Lib.hid (lgen wr _ (nm Q) (Tx.of _) (by have : (nm Q).length = 1 := rfl; omega) fA 5 fc (srcs L) rfl hrd hok (by decide) (HT.out.nx HC.out.st.nx) (HM.out.nx HC.out.st.nx) _ ho)
                  have e0 : wr.cell? ⟨g6, 0, none⟩ = some (.string ⟨(nm Q).toArray⟩) := HC.out.st.b6.cell 0
                  have e1 : wr.cell? ⟨g6, 1, none⟩ = some (.slice fA 5 fc) := HC.out.st.b6.cell 1
                  have HNE := Lib.hid hnet
                  have HO := Lib.hid ho
                  clear hnet hrd hok ho HCF hi hi5 hN hY
                  go_wp2_with fail
                  refine HLD.out.mono ?_; rintro e w6 ⟨nA, nc, fB, fd, rfl, hnm, hfl, hn6⟩
                  obtain ⟨gl, hgl⟩ : ∃ g, w6.heap.size = g := ⟨_, rfl⟩
                  have hBl := Blk.new w6 #[.slice nA ns.length nc, .slice fB fs.length fd] 45
                  rw [hgl] at hBl
                  have hn7 : Nx w6 (w6.alloc (.cells #[.slice nA ns.length nc, .slice fB fs.length fd] 45)) := nx0 _ _
                  have HBL := Lib.hid hBl
                  have HNM := Lib.hid (hnm.mv REq.lasts (Mv.nx hn7 (Nat.le_refl _)))
                  have HFL := Lib.hid (hfl.mv RFile.lasts (Mv.nx hn7 (Nat.le_refl _)))
                  have HC7 := Lib.hid (HC.out.next (hn6.trans hn7))
                  clear hBl hnm hfl hn6 hn7 e0 e1 HLD HC
                  go_upto_region 42 with (fail)
                  generalize World.alloc w6 _ = w7 at *
                  clear hgl
                  have b0 : w7.cell? ⟨gl, 0, none⟩ = some (.slice nA ns.length nc) := HBL.out.cell 0
                  have b1 : w7.cell? ⟨gl, 1, none⟩ = some (.slice fB fs.length fd) := HBL.out.cell 1
                  cases Y
                  · have hall : oe = 0 ∧ ns.length = N ∧ ns.getLast? = some (nm Q) ∧ fs = ns.map (f5 L) ∧ Ordr (f5 L) ns ∧ ∀ x ∈ ns, x ∈ K5 := by
                      have he := HNE.out.2 hYC.out.symm
                      have ho := HO.out
                      unfold outV at ho
                      rw [if_pos he.1] at ho
                      simp only [OutV.mk.injEq] at ho
                      obtain ⟨h1, h2, h3, -, -⟩ := ho
                      rw [h1, h2] at he
                      exact ⟨h3.symm, by rw [hNW.out]; exact he.2.1, he.2.2.1, he.2.2.2.1, he.2.2.2.2.1, he.2.2.2.2.2⟩
                    obtain ⟨rfl, hlen, hlast, hfs, hord, hK5⟩ := hall
                    have hfl : fs.length = N := by rw [hfs, List.length_map, hlen]
                    obtain ⟨V, hV⟩ : ∃ V, N = V + 1 := ⟨N - 1, by have := want5_pos L HQ5; rw [← hNW.out] at this; omega⟩
                    have hVn : ns[V]? = some (nm Q) := by
                      rw [List.getLast?_eq_getElem?, hlen, hV] at hlast
                      exact hlast
                    rw [hlen] at b0
                    rw [hfl] at b1
                    obtain ⟨A', c', xs, hA, hxl, -, -, hrd, hall⟩ := HNM.out.sl strA_size
                    simp only [Value.slice.injEq] at hA
                    obtain ⟨rfl, -, rfl⟩ := hA
                    obtain rfl : xs = ns := List.ext_getElem hall.len (fun i h1 h2 => hall.at_ i h1 h2)
                    obtain ⟨A', c', ys, hA, hyl, -, -, hrf, hallf⟩ := HFL.out.sl (show ∀ x, (filA x).size = 3 from fun _ => rfl)
                    simp only [Value.slice.injEq] at hA
                    obtain ⟨rfl, -, rfl⟩ := hA
                    obtain ⟨gn, rfl, hgn, hcn⟩ := hrd (by omega)
                    obtain ⟨gf, rfl, hgf, hcf⟩ := hrf (by omega)
                    have HNAME : Hid (∀ i (h : i < N) (x : World), Nx w7 x → x.cell? ⟨gn, i, none⟩ = some (.string ⟨(xs.getD i []).toArray⟩)) := fun i h x hx => by
                      rw [show xs.getD i [] = xs[i]'(by omega) from by simp [List.getD_eq_getElem?_getD, List.getElem?_eq_getElem (show i < xs.length by omega)]]
                      have := hcn i (by omega) 0 (by decide)
                      rw [show i * 1 + 0 = i by omega] at this
                      exact (hx.cell (p := ⟨gn, i, none⟩) hgn).trans this
                    have HFILE : Hid (∀ i, i < N → ∃ (iA : Option Addr) (ic : Nat) (l : List (List UInt8)), (∀ x, Nx w7 x → x.cell? ⟨gf, i * 3, none⟩ = some (.slice iA l.length ic)) ∧ (∀ k (h : k < l.length), ∃ gi, iA = some ⟨gi, 0, none⟩ ∧ ∀ x, Nx w7 x → x.cell? ⟨gi, k, none⟩ = some (.string ⟨l[k].toArray⟩)) ∧ (∀ y ∈ l, y ∈ xs.take i) ∧ (l.length : Int) ≤ 5) := by
                      intro i hi
                      have hiy : i < ys.length := by omega
                      have hif : i < fs.length := by omega
                      have hfile := hallf.at_ i hiy hif
                      have hfi : fs[i] = f5 L (xs[i]'(by omega)) := by simp only [hfs, List.getElem_map]
                      obtain ⟨⟨x1, x2, x3⟩, hx⟩ : ∃ x, ys[i] = x := ⟨_, rfl⟩
                      rw [hx] at hfile
                      obtain ⟨iA, ic, zs, hz, hzl, -, -, hrz, hallz⟩ := hfile.1.sl strA_size
                      obtain rfl : zs = fs[i].incs := List.ext_getElem hallz.len (fun i h1 h2 => hallz.at_ i h1 h2)
                      refine ⟨iA, ic, fs[i].incs, fun x hx' => ?_, fun k hk => ?_, fun y hy => ?_, ?_⟩
                      · have := hcf i hiy 0 (by decide)
                        rw [hx, show i * 3 + 0 = i * 3 by omega] at this
                        rw [hx'.cell (p := ⟨gf, i * 3, none⟩) hgf, this]
                        show some x1 = _
                        rw [show x1 = _ from hz]
                      · obtain ⟨gi, rfl, hgi, hci⟩ := hrz (by omega)
                        refine ⟨gi, rfl, fun x hx' => ?_⟩
                        have := hci k hk 0 (by decide)
                        rw [show k * 1 + 0 = k by omega] at this
                        exact (hx'.cell (p := ⟨gi, k, none⟩) hgi).trans this
                      · rw [hfi] at hy
                        exact hord i _ (List.getElem?_eq_getElem (by omega)) y hy
                      · obtain ⟨j, hj, hjx⟩ := mem_K5.1 (hK5 _ (List.getElem_mem (show i < xs.length by omega)))
                        rw [hfi, hjx, f5_at hj]
                        have h4 := HL4.out j hj
                        have : (fOf (L j)).incs.length = (L j).length := by simp [fOf, incsOf]
                        omega
                    have HVN : Hid (xs.getD V [] = nm Q) := by
                      unfold Hid
                      rw [List.getD_eq_getElem?_getD, hVn]; rfl
                    have HLEN := Lib.hid hlen
                    have hNVI : IntKind.i64.wrap ((N : Int) - 1) = (V : Int) := by
                      have := wrapNat V (by omega)
                      rw [show (N : Int) - 1 = (V : Int) by omega]; exact this
                    have t1 : ((N : Int) != (N : Int)) = false := by simp
                    have t2 : ((N : Int) == 0) = false := by rw [beq_eq_false_iff_ne]; omega
                    have t3 : (nm Q != nm Q) = false := by simp
                    have t4 : (V : Int) < (N : Int) := by omega
                    have t5 : V < N := by omega
                    have HB0 := Lib.hid HBL.out
                    rw [show ((0 : Nat) : Int) = 0 from rfl]
                    clear hrd hrf hcn hcf hallf hall hord hK5 hlast hfs hVn hxl hyl hgn hgf HNE HO HNM HFL hlen hV
                    go_upto_region 44 with (fail)
                    have M0 : ∀ x : Gr w7, x.1.cell? ⟨gl, 0, none⟩ = some (.slice (some ⟨gn, 0, none⟩) N nc) := fun x => by rw [← b0]; exact x.2.cell (p := ⟨gl, 0, none⟩) HBL.out.lt
                    have M1 : ∀ x : Gr w7, x.1.cell? ⟨gl, 1, none⟩ = some (.slice (some ⟨gf, 0, none⟩) N fd) := fun x => by rw [← b1]; exact x.2.cell (p := ⟨gl, 1, none⟩) HBL.out.lt
                    have M2 : ∀ x : Gr w7, x.1.cell? ⟨gn, V, none⟩ = some (.string ⟨(nm Q).toArray⟩) := fun x => by rw [HNAME.out V t5 x.1 x.2, HVN.out]
                    have M3 : ∀ x : Gr w7, x.1.cell? ⟨g6, 0, none⟩ = some (.string ⟨(nm Q).toArray⟩) := fun x => (HC7.out.next x.2).st.b6.cell 0
                    have HM0 := Lib.hid M0
                    have HM1 := Lib.hid M1
                    go_cut [206] (fun v wx => v = .bool false ∧ Nx w7 wx)
                    case first =>
                      have b2 : w7.cell? ⟨gn, V, none⟩ = some (.string ⟨(nm Q).toArray⟩) := by rw [HNAME.out V t5 w7 (Nx.refl _), HVN.out]
                      have b3 : w7.cell? ⟨g6, 0, none⟩ = some (.string ⟨(nm Q).toArray⟩) := HC7.out.st.b6.cell 0
                      have HD : Hid (Nx w7 w7.drew) := Nx.drewN w7 1
                      clear M0 M1 M2 M3
                      go_region
                      all_goals
                        go_wp2_with fail
                        go_meet
                        case rel => exact ⟨rfl, HD.out⟩
                    case rest =>
                    obtain ⟨rfl, hn8⟩ := hcut
                    have HN8 := Lib.hid hn8
                    clear hn8 M0 M1 M2 M3 b0 b1 t1 t2 t3 t4 t5 hNVI
                    go_upto_region 46 with (fail)
                    go_wp2_with fail
                    go_loopw [24] (fun v wr => ∃ i : Nat, v = .int .i64 i ∧ i ≤ N ∧ Nx w7 wr) (fun v _ => (N - intOf v).toNat)
                    case atStart => exact ⟨0, rfl, Nat.zero_le _, HN8.out⟩
                    case round =>
                      obtain ⟨i, rfl, hi, hn9⟩ := hrel
                      have HN9 := Lib.hid hn9
                      clear hn9
                      by_cases hiN : i < N
                      · have hiI : (i : Int) < (N : Int) := by omega
                        obtain ⟨iA, ic, l, hl1, hl2, hl3, hl5⟩ := HFILE.out i hiN
                        have HL1 := Lib.hid hl1
                        have HL2 := Lib.hid hl2
                        have HL3 := Lib.hid hl3
                        obtain ⟨m, hm⟩ : ∃ m, l.length = m := ⟨_, rfl⟩
                        rw [hm] at HL1 hl5
                        clear hl1 hl2 hl3
                        go_wp2_with fail
                        go_loopw [25] (fun v wr => ∃ k : Nat, v = .int .i64 k ∧ k ≤ m ∧ Nx w7 wr) (fun v _ => (m - intOf v).toNat)
                        case atStart => exact ⟨0, rfl, Nat.zero_le _, HN9.out⟩
                        case round =>
                          obtain ⟨k, rfl, hk, hn10⟩ := hrel
                          have HN10 := Lib.hid hn10
                          clear hn10
                          have b1 : wr.cell? ⟨gl, 1, none⟩ = some (.slice (some ⟨gf, 0, none⟩) N fd) := HM1.out ⟨wr, HN10.out⟩
                          have b2 : wr.cell? ⟨gf, i * 3, none⟩ = some (.slice iA m ic) := HL1.out wr HN10.out
                          by_cases hkm : k < m
                          · have hkI : (k : Int) < (m : Int) := by omega
                            obtain ⟨gi, rfl, hci⟩ := HL2.out k (by omega)
                            have HY := Lib.hid (HL3.out l[k] (List.getElem_mem (by omega)))
                            obtain ⟨y, hy⟩ : ∃ y, l[k] = y := ⟨_, rfl⟩
                            rw [hy] at hci HY
                            have HCI := Lib.hid hci
                            clear hci hy
                            go_upto_region 53 with (fail)
                            clear b1 b2
                            go_wp2_with fail
                            go_loopw [26, 27] (fun u v wr => ∃ q : Nat, v = .int .i64 q ∧ q ≤ i ∧ u = .bool ((xs.take q).contains y) ∧ Nx w7 wr) (fun _ v _ => (i - intOf v).toNat)
                            case atStart => exact ⟨0, rfl, Nat.zero_le _, rfl, HN10.out⟩
                            case round =>
                              obtain ⟨q, rfl, hq, rfl, hn11⟩ := hrel
                              have HN11 := Lib.hid hn11
                              clear hn11
                              obtain ⟨Bo, hBo⟩ : ∃ Bo, Hid ((xs.take q).contains y = Bo) := ⟨_, rfl⟩
                              rw [hBo.out]
                              by_cases hqi : q < i
                              · have hqI : (q : Int) < (i : Int) := by omega
                                have hqN : (q : Int) < (N : Int) := by omega
                                obtain ⟨z, hz⟩ : ∃ z, xs.getD q [] = z := ⟨_, rfl⟩
                                obtain ⟨E, hE⟩ : ∃ E, (z == y) = E := ⟨_, rfl⟩
                                have HNX : Hid ((xs.take (q + 1)).contains y = (Bo || E)) := by
                                  have hqx : q < xs.length := by have := HLEN.out; omega
                                  have hzz : xs[q] = z := by rw [← hz]; simp [List.getD_eq_getElem?_getD, List.getElem?_eq_getElem hqx]
                                  unfold Hid
                                  rw [List.take_succ_eq_append_getElem hqx, hzz]
                                  rw [← hE, ← hBo.out]
                                  exact contains_snocB _ _ _
                                have M0 : ∀ x : Gr wr, x.1.cell? ⟨gl, 0, none⟩ = some (.slice (some ⟨gn, 0, none⟩) N nc) := fun x => HM0.out ⟨x.1, HN11.out.trans x.2⟩
                                have M1 : ∀ x : Gr wr, x.1.cell? ⟨gl, 1, none⟩ = some (.slice (some ⟨gf, 0, none⟩) N fd) := fun x => HM1.out ⟨x.1, HN11.out.trans x.2⟩
                                have M2 : ∀ x : Gr wr, x.1.cell? ⟨gf, i * 3, none⟩ = some (.slice (some ⟨gi, 0, none⟩) m ic) := fun x => HL1.out x.1 (HN11.out.trans x.2)
                                have M3 : ∀ x : Gr wr, x.1.cell? ⟨gi, k, none⟩ = some (.string ⟨y.toArray⟩) := fun x => HCI.out x.1 (HN11.out.trans x.2)
                                have M4 : ∀ x : Gr wr, x.1.cell? ⟨gn, q, none⟩ = some (.string ⟨z.toArray⟩) := fun x => by rw [HNAME.out q (by omega) x.1 (HN11.out.trans x.2), hz]
                                clear hz
                                go_upto_region 56 with (fail)
                                (try clear hQ); (try clear hrem); (try clear hQ5); (try clear HQ5); (try clear hwQ); (try clear hl5); (try clear hm); (try clear hg6); (try clear hg7); (try clear hne); (try clear hle); (try clear hfl); skip
                                have m0 : wr.cell? ⟨gl, 0, none⟩ = some (.slice (some ⟨gn, 0, none⟩) N nc) := M0 ⟨wr, Nx.refl wr⟩
                                have m1 : wr.cell? ⟨gl, 1, none⟩ = some (.slice (some ⟨gf, 0, none⟩) N fd) := M1 ⟨wr, Nx.refl wr⟩
                                have m2 : wr.cell? ⟨gf, i * 3, none⟩ = some (.slice (some ⟨gi, 0, none⟩) m ic) := M2 ⟨wr, Nx.refl wr⟩
                                have m3 : wr.cell? ⟨gi, k, none⟩ = some (.string ⟨y.toArray⟩) := M3 ⟨wr, Nx.refl wr⟩
                                have m4 : wr.cell? ⟨gn, q, none⟩ = some (.string ⟨z.toArray⟩) := M4 ⟨wr, Nx.refl wr⟩
                                have HN12 : Hid (Nx w7 wr.drew) := HN11.out.trans (Nx.drewN wr 1)
                                clear M0 M1 M2 M3 M4
                                cases Bo
                                · go_region
                                  all_goals
                                    go_wp2_with fail
                                    go_roundw
                                    case rel => exact ⟨q + 1, by go_num, hqi, by rw [HNX.out]; rfl, HN12.out⟩
                                    case measure => simp [intOf]; omega
                                · go_region
                                  all_goals
                                    go_wp2_with fail
                                    go_roundw
                                    case rel => exact ⟨q + 1, by go_num, hqi, by rw [HNX.out]; rfl, HN12.out⟩
                                    case measure => simp [intOf]; omega
                              · have hqe : q = i := by omega
                                have hBT : Bo = true := by
                                  rw [← hBo.out, hqe]
                                  exact contains_mem HY.out
                                subst hBT
                                have hqI : ¬ (q : Int) < (i : Int) := by omega
                                go_wp2_with fail
                                go_roundw
                                case rel => exact ⟨k + 1, by go_num, hkm, HN11.out⟩
                                case measure => simp [intOf]; omega
                          · have hkI : ¬ (k : Int) < (m : Int) := by omega
                            go_wp2_with fail
                            go_roundw
                            case rel => exact ⟨i + 1, by go_num, hiN, HN10.out⟩
                            case measure => simp [intOf]; omega
                      · have hiI : ¬ (i : Int) < (N : Int) := by omega
                        go_wp2_with fail
                        go_ret
                        have hfin := HC7.out.st.nx.trans HN9.out
                        first | exact ⟨rfl, hfin⟩ | (unfold Nx at hfin; rw [hgL] at hfin; exact ⟨rfl, hfin⟩)
                  · have hoe : oe = 9 ∧ ns = [] := by
                      have he := HNE.out.1 hYC.out.symm
                      have ho := HO.out
                      unfold outV at ho
                      rw [if_neg (by rw [he]; decide), he] at ho
                      simp only [OutV.mk.injEq] at ho
                      exact ⟨ho.2.2.1.symm, ho.1.symm⟩
                    obtain ⟨rfl, rfl⟩ := hoe
                    clear HNE HO HNM HFL b1
                    replace b0 : w7.cell? ⟨gl, 0, none⟩ = some (.slice nA 0 nc) := b0
                    go_wp2_with fail
                    go_ret
                    exact ⟨rfl, HC7.out.st.nx⟩
end Go.Proofs.YtpbjkgpdkopgmaaGreatDoor
