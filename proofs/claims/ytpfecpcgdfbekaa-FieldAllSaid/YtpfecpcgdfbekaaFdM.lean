/- The document's answer: numbers of fields. -/
import Derived.Test.YtpfecpcgdfbekaaFdH
set_option linter.unusedVariables false
set_option linter.unusedSimpArgs false
namespace Go.Proofs.Ytpfecpcgdfbekaa
open Go.RowKit

set_option maxRecDepth 100000 in
set_option maxHeartbeats 6400000 in
theorem rids_any (w : World) (A : Option Addr) (c : Nat) (fs : List Fd) (hr : RdF w A fs) (hn : fs.length ≤ 100) (hc1 : fs.length ≤ c) (hc2 : c ≤ maxLen) :
    Calls Try.prog 9 #[.slice A fs.length c] w fun e w' => IdsR fs w e w' := by
  obtain ⟨R, hR⟩ : ∃ R, idsP fs (-1) [] [] = R := ⟨_, rfl⟩
  obtain ⟨n, hN⟩ : ∃ n, fs.length = n := ⟨_, rfl⟩
  unfold IdsR
  rw [hR]
  rw [hN] at hn hc1 ⊢
  have HN := Lib.hid hN
  have HR := Lib.hid hr
  have HRR := Lib.hid hR
  have hni : (n : Int) ≤ 100 := by omega
  clear hr hR hN hn hc1 hc2
  go_enter Try.func9, Try.ntmps9
  go_wp2_with fail
  go_loopw [4, 5, 6] (fun v4 v5 v6 wr => ∃ (i : Nat) (ids : List Int) (nx : Int), v6 = .int .i64 (i : Int) ∧ v5 = .int .i64 (nx + 1) ∧ i ≤ n ∧ -1 - (i : Int) ≤ nx ∧ nx ≤ -1 ∧ Hid (ids.length = i ∧ Own iv 3 wr w.heap.size v4 ids ∧ Nx w wr) ∧ Hid (idsP (fs.drop i) nx ids ((fs.take i).map (·.nm)) = R)) (fun _ _ v _ => (n - intOf v).toNat)
  case atStart => exact ⟨0, [], -1, rfl, rfl, Nat.zero_le _, by omega, by omega, ⟨rfl, Own.nil_, Nx.refl _⟩, HRR.out⟩
  case round =>
    obtain ⟨i, ids, nx, rfl, rfl, hi, hx1, hx2, HH, HP⟩ := hrel
    obtain ⟨A2, m2, rfl, -, -, hr2⟩ := HH.out.2.1.sl
    have HR2 := Lib.hid hr2
    have HIL := Lib.hid HH.out.1
    rw [HIL.out]
    have hnx1 : nx + 1 - 1 = nx := by omega
    have hwx : IntKind.i64.wrap nx = nx := by rw [IntKind.wrap_i64]; omega
    have hwx1 : IntKind.i64.wrap (nx + 1) = nx + 1 := by rw [IntKind.wrap_i64]; omega
    clear hr2
    by_cases hlt : i < n
    · have q1 : decide ((i : Int) < (n : Int)) = true := decide_eq_true (by omega)
      have q2 : (i : Int) < (n : Int) := by omega
      have q3 : (0 : Int) ≤ (i : Int) := by omega
      have hif : i < fs.length := by rw [HN.out]; exact hlt
      obtain ⟨f, hf⟩ : ∃ f, fs[i] = f := ⟨_, rfl⟩
      have hst := idsP_step hif hf nx ids ((fs.take i).map (·.nm))
      rw [HP.out] at hst
      have HST := Lib.hid hst
      have HNS : Hid ((fs.take i).map (·.nm) ++ [f.nm] = (fs.take (i + 1)).map (·.nm)) := by
        unfold Hid; rw [List.take_succ_eq_append_getElem hif, List.map_append, hf]; rfl
      obtain ⟨g, off, rfl, hg, hc⟩ := HR.out.nx HH.out.2.2 (by omega)
      obtain ⟨x, hV⟩ := hc i hif
      rw [hf] at hV
      obtain ⟨has, id, nm⟩ := f
      dsimp only at HNS
      have c0 : wr.cell? ⟨g, off + i * 11, none⟩ = some (.bool has) := hV 0 (by decide)
      have c1 : wr.cell? ⟨g, off + i * 11 + 1, none⟩ = some (.int .i64 id) := hV 1 (by decide)
      have c4 : wr.cell? ⟨g, off + i * 11 + 4, none⟩ = some (.string ⟨nm.toArray⟩) := hV 4 (by decide)
      have HCN : Hid (∀ k (h : k < fs.length), wr.cell? ⟨g, off + k * 11 + 4, none⟩ = some (.string ⟨fs[k].nm.toArray⟩)) := fun k hk => by
        obtain ⟨x, hV⟩ := hc k hk
        exact hV 4 (by decide)
      have HLT := Lib.hid hlt
      clear hV hc hif hf hst hlt
      cases has with
      | true =>
        by_cases hbad : id < 1 ∨ 32767 < id
        · have HX : Hid (R = ([], 5)) := by
            have h := HST.out
            rw [if_pos (by simp [fdBad]; omega)] at h
            exact h
          by_cases h1 : id < 1
          · have b1 : decide (id < 1) = true := decide_eq_true h1
            clear hbad
            go_wp2_with fail
            go_ret2
            rw [HX.out]
            exact ⟨_, rfl, Own.nil_, HH.out.2.2⟩
          · have b1 : decide (id < 1) = false := decide_eq_false h1
            have h2 : 32767 < id := by omega
            have b2 : decide (32767 < id) = true := decide_eq_true h2
            clear hbad
            go_wp2_with fail
            go_ret2
            rw [HX.out]
            exact ⟨_, rfl, Own.nil_, HH.out.2.2⟩
        have h1 : ¬ id < 1 := by omega
        have h2 : ¬ 32767 < id := by omega
        have b1 : decide (id < 1) = false := decide_eq_false h1
        have b2 : decide (32767 < id) = false := decide_eq_false h2
        have HGD : Hid (1 ≤ id ∧ id ≤ 32767) := by unfold Hid; omega
        clear hbad
        go_wp2_with fail
        go_loopw [8] (fun v wq => ∃ k : Nat, v = .int .i64 (k : Int) ∧ k ≤ i ∧ Hid (∀ m (h : m < ids.length) (h2 : m < fs.length), m < k → ids[m] ≠ id ∧ fs[m].nm ≠ nm) ∧ Hid (Nx wr wq)) (fun v _ => (i - intOf v).toNat)
        case atStart => exact ⟨0, rfl, Nat.zero_le _, fun m _ _ h => absurd h (by omega), Nx.refl _⟩
        case round =>
          obtain ⟨k, rfl, hk, HM, HQ⟩ := hrel
          by_cases hlt2 : k < i
          · have k1 : decide ((k : Int) < (i : Int)) = true := decide_eq_true (by omega)
            have k2 : (k : Int) < (i : Int) := by omega
            have k3 : (0 : Int) ≤ (k : Int) := by omega
            have k4 : (k : Int) < (n : Int) := by omega
            have hki : k < ids.length := by rw [HIL.out]; exact hlt2
            have hkf : k < fs.length := by rw [HN.out]; omega
            obtain ⟨y, hy⟩ : ∃ y, ids[k] = y := ⟨_, rfl⟩
            obtain ⟨l, hl⟩ : ∃ l, fs[k].nm = l := ⟨_, rfl⟩
            obtain ⟨g5, o5, rfl, hg5, cy⟩ := (HR2.out.below HQ.out).at_ hki
            rw [hy] at cy
            unfold iv at cy
            have lt0 := World.block_lt_of_cell? _ _ c4
            have ck : wr.cell? ⟨g, off + k * 11 + 4, none⟩ = some (.string ⟨l.toArray⟩) := by
              have := HCN.out k hkf
              rw [hl] at this
              exact (HQ.out.cell (p := ⟨g, off + k * 11 + 4, none⟩) lt0).trans this
            have ci : wr.cell? ⟨g, off + i * 11 + 4, none⟩ = some (.string ⟨nm.toArray⟩) := (HQ.out.cell (p := ⟨g, off + i * 11 + 4, none⟩) lt0).trans c4
            have HLT2 := Lib.hid hlt2
            by_cases hyi : y = id
            · have e1 : (y == id) = true := by rw [hyi]; simp
              have HX : Hid (R = ([], 8)) := by
                have h := HST.out
                rw [if_neg (by simp [fdBad]; have := HGD.out; omega), if_pos (.inl (by simp only [fdN]; rw [← hyi, ← hy]; exact List.getElem_mem hki))] at h
                exact h
              clear hy hl hki hkf hlt2 hg5 lt0 hyi
              go_wp2_with fail
              go_quiet (fail)
              go_wp2_with fail
              go_ret2
              rw [HX.out]
              exact ⟨_, rfl, Own.nil_, (HH.out.2.2.trans HQ.out).dr _⟩
            · have e1 : (y == id) = false := by rw [beq_eq_false_iff_ne]; exact hyi
              by_cases hnl : l = nm
              · have e2 : (l == nm) = true := by rw [hnl]; simp
                have HX : Hid (R = ([], 8)) := by
                  have h := HST.out
                  rw [if_neg (by simp [fdBad]; have := HGD.out; omega), if_pos (.inr (by
                    refine List.mem_map.2 ⟨fs[k], ?_, by rw [hl, hnl]⟩
                    rw [List.mem_take_iff_getElem]
                    exact ⟨k, by omega, rfl⟩))] at h
                  exact h
                clear hy hl hki hkf hlt2 hg5 lt0 hyi
                go_wp2_with fail
                go_quiet (fail)
                go_wp2_with fail
                go_ret2
                rw [HX.out]
                exact ⟨_, rfl, Own.nil_, (HH.out.2.2.trans HQ.out).dr _⟩
              · have e2 : (l == nm) = false := by rw [beq_eq_false_iff_ne]; exact hnl
                have HM2 : Hid (∀ m (h : m < ids.length) (h2 : m < fs.length), m < k + 1 → ids[m] ≠ id ∧ fs[m].nm ≠ nm) := fun m h h2 h3 => by
                  rcases Nat.lt_or_ge m k with h4 | h4
                  · exact HM.out m h h2 h4
                  · obtain rfl : m = k := by omega
                    rw [hy, hl]; exact ⟨hyi, hnl⟩
                clear hy hl hki hkf hlt2 hg5 lt0 hyi hnl
                go_wp2_with fail
                go_quiet (fail)
                go_wp2_with fail
                go_roundw
                case rel => exact ⟨k + 1, by go_num, HLT2.out, HM2, HQ.out.dr _⟩
                case measure => have := HLT2.out; simp [intOf]; omega
          · have k1 : decide ((k : Int) < (i : Int)) = false := decide_eq_false (by omega)
            have k2 : ¬ (k : Int) < (i : Int) := by omega
            obtain rfl : k = i := by omega
            have HX : Hid (R = idsP (fs.drop (k + 1)) nx (ids ++ [id]) ((fs.take (k + 1)).map (·.nm))) := by
              have h := HST.out
              rw [if_neg (by simp [fdBad]; have := HGD.out; omega), if_neg (by
                rintro (h | h)
                · simp only [fdN] at h
                  obtain ⟨m, hm, e⟩ := List.getElem_of_mem h
                  exact (HM.out m hm (by have := HN.out; have := HIL.out; have := HLT.out; omega) (by have := HIL.out; omega)).1 e
                · obtain ⟨f, hf, e⟩ := List.mem_map.1 h
                  obtain ⟨m, hm, e2⟩ := List.mem_take_iff_getElem.1 hf
                  exact (HM.out m (by have := HIL.out; omega) (by omega) (by omega)).2 (by rw [e2]; exact e)), HNS.out] at h
              exact h
            have ho := HH.out.2.1.below HQ.out
            rw [HIL.out] at ho
            have HO := Lib.hid ho
            have hl9 : (ids.length : Int) ≤ 100 := by have := HIL.out; omega
            have hsz : w.heap.size ≤ wr.heap.size := (HH.out.2.2.trans HQ.out).size
            have HSZ := Lib.hid hsz
            clear ho hlt2 hk
            go_wp2_with (at_builtin; go_must (refine wpList_app (f := iv) _ elI rfl _ _ rfl (fun _ => rfl) w.heap.size _ _ [id] rfl (HO.out.alloc _) _ _ rfl (Rd.one rfl rfl) (by simp [maxLen]; omega) (by simp; omega) (by simp; have := HSZ.out; omega) ?_; intro v' w6 hown6 hbel6))
            have hb6 : Nx w w6 := ((HH.out.2.2.trans HQ.out).alloc HSZ.out _).trans hbel6
            have HO6 := Lib.hid hown6
            have HB6 := Lib.hid hb6
            clear hown6 hbel6 hb6
            go_roundw
            case rel => exact ⟨k + 1, ids ++ [id], nx, by go_num, by first | rfl | (congr 1; omega), HLT.out, by omega, by omega, ⟨by simp; exact HIL.out, HO6.out, HB6.out⟩, HX.out.symm⟩
            case measure => have := HLT.out; simp [intOf]; omega
      | false =>
        go_wp2_with fail
        go_loopw [8] (fun v wq => ∃ k : Nat, v = .int .i64 (k : Int) ∧ k ≤ i ∧ Hid (∀ m (h : m < ids.length) (h2 : m < fs.length), m < k → ids[m] ≠ nx ∧ fs[m].nm ≠ nm) ∧ Hid (Nx wr wq)) (fun v _ => (i - intOf v).toNat)
        case atStart => exact ⟨0, rfl, Nat.zero_le _, fun m _ _ h => absurd h (by omega), Nx.refl _⟩
        case round =>
          obtain ⟨k, rfl, hk, HM, HQ⟩ := hrel
          by_cases hlt2 : k < i
          · have k1 : decide ((k : Int) < (i : Int)) = true := decide_eq_true (by omega)
            have k2 : (k : Int) < (i : Int) := by omega
            have k3 : (0 : Int) ≤ (k : Int) := by omega
            have k4 : (k : Int) < (n : Int) := by omega
            have hki : k < ids.length := by rw [HIL.out]; exact hlt2
            have hkf : k < fs.length := by rw [HN.out]; omega
            obtain ⟨y, hy⟩ : ∃ y, ids[k] = y := ⟨_, rfl⟩
            obtain ⟨l, hl⟩ : ∃ l, fs[k].nm = l := ⟨_, rfl⟩
            obtain ⟨g5, o5, rfl, hg5, cy⟩ := (HR2.out.below HQ.out).at_ hki
            rw [hy] at cy
            unfold iv at cy
            have lt0 := World.block_lt_of_cell? _ _ c4
            have ck : wr.cell? ⟨g, off + k * 11 + 4, none⟩ = some (.string ⟨l.toArray⟩) := by
              have := HCN.out k hkf
              rw [hl] at this
              exact (HQ.out.cell (p := ⟨g, off + k * 11 + 4, none⟩) lt0).trans this
            have ci : wr.cell? ⟨g, off + i * 11 + 4, none⟩ = some (.string ⟨nm.toArray⟩) := (HQ.out.cell (p := ⟨g, off + i * 11 + 4, none⟩) lt0).trans c4
            have HLT2 := Lib.hid hlt2
            by_cases hyi : y = nx
            · have e1 : (y == nx) = true := by rw [hyi]; simp
              have HX : Hid (R = ([], 8)) := by
                have h := HST.out
                rw [if_neg (by simp [fdBad]), if_pos (.inl (by simp only [fdN]; rw [← hyi, ← hy]; exact List.getElem_mem hki))] at h
                exact h
              clear hy hl hki hkf hlt2 hg5 lt0 hyi
              go_wp2_with fail
              go_quiet (fail)
              go_wp2_with fail
              go_ret2
              rw [HX.out]
              exact ⟨_, rfl, Own.nil_, (HH.out.2.2.trans HQ.out).dr _⟩
            · have e1 : (y == nx) = false := by rw [beq_eq_false_iff_ne]; exact hyi
              by_cases hnl : l = nm
              · have e2 : (l == nm) = true := by rw [hnl]; simp
                have HX : Hid (R = ([], 8)) := by
                  have h := HST.out
                  rw [if_neg (by simp [fdBad]), if_pos (.inr (by
                    refine List.mem_map.2 ⟨fs[k], ?_, by rw [hl, hnl]⟩
                    rw [List.mem_take_iff_getElem]
                    exact ⟨k, by omega, rfl⟩))] at h
                  exact h
                clear hy hl hki hkf hlt2 hg5 lt0 hyi
                go_wp2_with fail
                go_quiet (fail)
                go_wp2_with fail
                go_ret2
                rw [HX.out]
                exact ⟨_, rfl, Own.nil_, (HH.out.2.2.trans HQ.out).dr _⟩
              · have e2 : (l == nm) = false := by rw [beq_eq_false_iff_ne]; exact hnl
                have HM2 : Hid (∀ m (h : m < ids.length) (h2 : m < fs.length), m < k + 1 → ids[m] ≠ nx ∧ fs[m].nm ≠ nm) := fun m h h2 h3 => by
                  rcases Nat.lt_or_ge m k with h4 | h4
                  · exact HM.out m h h2 h4
                  · obtain rfl : m = k := by omega
                    rw [hy, hl]; exact ⟨hyi, hnl⟩
                clear hy hl hki hkf hlt2 hg5 lt0 hyi hnl
                go_wp2_with fail
                go_quiet (fail)
                go_wp2_with fail
                go_roundw
                case rel => exact ⟨k + 1, by go_num, HLT2.out, HM2, HQ.out.dr _⟩
                case measure => have := HLT2.out; simp [intOf]; omega
          · have k1 : decide ((k : Int) < (i : Int)) = false := decide_eq_false (by omega)
            have k2 : ¬ (k : Int) < (i : Int) := by omega
            obtain rfl : k = i := by omega
            have HX : Hid (R = idsP (fs.drop (k + 1)) (nx - 1) (ids ++ [nx]) ((fs.take (k + 1)).map (·.nm))) := by
              have h := HST.out
              rw [if_neg (by simp [fdBad]), if_neg (by
                rintro (h | h)
                · simp only [fdN] at h
                  obtain ⟨m, hm, e⟩ := List.getElem_of_mem h
                  exact (HM.out m hm (by have := HN.out; have := HIL.out; have := HLT.out; omega) (by have := HIL.out; omega)).1 e
                · obtain ⟨f, hf, e⟩ := List.mem_map.1 h
                  obtain ⟨m, hm, e2⟩ := List.mem_take_iff_getElem.1 hf
                  exact (HM.out m (by have := HIL.out; omega) (by omega) (by omega)).2 (by rw [e2]; exact e)), HNS.out] at h
              exact h
            have ho := HH.out.2.1.below HQ.out
            rw [HIL.out] at ho
            have HO := Lib.hid ho
            have hl9 : (ids.length : Int) ≤ 100 := by have := HIL.out; omega
            have hsz : w.heap.size ≤ wr.heap.size := (HH.out.2.2.trans HQ.out).size
            have HSZ := Lib.hid hsz
            clear ho hlt2 hk
            go_wp2_with (at_builtin; go_must (refine wpList_app (f := iv) _ elI rfl _ _ rfl (fun _ => rfl) w.heap.size _ _ [nx] rfl (HO.out.alloc _) _ _ rfl (Rd.one rfl rfl) (by simp [maxLen]; omega) (by simp; omega) (by simp; have := HSZ.out; omega) ?_; intro v' w6 hown6 hbel6))
            have hb6 : Nx w w6 := ((HH.out.2.2.trans HQ.out).alloc HSZ.out _).trans hbel6
            have HO6 := Lib.hid hown6
            have HB6 := Lib.hid hb6
            clear hown6 hbel6 hb6
            go_roundw
            case rel => exact ⟨k + 1, ids ++ [nx], (nx - 1), by go_num, by first | rfl | (congr 1; omega), HLT.out, by omega, by omega, ⟨by simp; exact HIL.out, HO6.out, HB6.out⟩, HX.out.symm⟩
            case measure => have := HLT.out; simp [intOf]; omega
    · have q1 : decide ((i : Int) < (n : Int)) = false := decide_eq_false (by omega)
      have q2 : ¬ (i : Int) < (n : Int) := by omega
      obtain rfl : i = n := by omega
      have HX : Hid (R = (ids, 0)) := by
        unfold Hid; rw [← HP.out, List.drop_of_length_le (by rw [HN.out]; exact Nat.le_refl _)]; rfl
      go_wp2_with fail
      go_ret2
      rw [HX.out]
      have := HH.out.2.1
      rw [HIL.out] at this
      exact ⟨_, rfl, this, HH.out.2.2⟩
end Go.Proofs.Ytpfecpcgdfbekaa
