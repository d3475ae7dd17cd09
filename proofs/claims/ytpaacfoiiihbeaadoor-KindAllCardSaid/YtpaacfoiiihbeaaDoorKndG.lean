/- The contracts of the document's reading of kinds: Names. -/
import Derived.Test.YtpaacfoiiihbeaaDoorKndF
import Derived.Test.YtpaacfoiiihbeaaDoorKinU
import Derived.Test.YtpaacfoiiihbeaaDoorHybF
set_option linter.unusedVariables false
set_option linter.unusedSimpArgs false
namespace Go.Proofs.YtpaacfoiiihbeaaDoor
open Go.RowKit

theorem ite_intro {c : Prop} [Decidable c] {p q : Prop} (hc : c) (h : p) : if c then p else q := by rw [if_pos hc]; exact h
/-- append of texts, as an operation -/
theorem op_appNs (w : World) {o : Oper} {a : Act} {K : Act → World → Prop} (s x : Operand)
    (ho : o.op = .call { callee := .builtin .append, args := #[s, x], argTypes := #[30, 30] })
    (B : Nat) (v v2 : Value) (xs ys : List ByteArray) (hs : a.eval s = v) (hown : OwnN w B v xs) (hx : a.eval x = v2) (hy : OwnN w B v2 ys) (hy0 : ys = [] → v2 = .slice none 0 0)
    (h63 : (xs.length : Int) + (ys.length : Int) ≤ 100000) (hB : B ≤ w.heap.size)
    (h : ∀ v' w', OwnN w' B v' (xs ++ ys) → (xs ++ ys = [] → v' = .slice none 0 0 ∨ xs = [] ∧ v ≠ .slice none 0 0) → w.grownBy w' v.ownBlock → K (a.put o.dst v') w') : o.wp Tryd.prog a w K (fun _ _ _ => False) := by
  obtain ⟨i, hi, hz, h1, h2⟩ := info_parts (show (Tryd.prog.info? 9).map (fun i => (i.zero, i.size, i.bytes)) = some (some (.string ⟨#[]⟩), 1, 16) by kernel_rfl)
  have key : ∃ v' w', (Builtin.append_ #[30, 30] o.type #[v, v2]).run Tryd.prog w = .ok v' w' ∧ OwnN w' B v' (xs ++ ys) ∧ (xs ++ ys = [] → v' = .slice none 0 0 ∨ xs = [] ∧ v ≠ .slice none 0 0) ∧ w.grownBy w' v.ownBlock := by
    rcases Nat.eq_zero_or_pos ys.length with h0 | h0
    · obtain rfl := List.eq_nil_of_length_eq_zero h0
      obtain rfl := hy0 rfl
      rcases hown.2 with ⟨rfl, h3⟩ | ⟨g, cap, cur, rfl, hg, hh, hnc, r⟩
      · have hx0 : xs = [] := by
          cases xs with
          | nil => rfl
          | cons y ys => simp [rowL, strC] at h3
        subst hx0
        refine ⟨.slice none 0 0, w, ?_, OwnS.nil_ _ _, fun _ => .inl rfl, ⟨rfl, rfl, rfl, Nat.le_refl _, fun _ _ _ => rfl⟩⟩
        simp [Builtin.append_, run_underlying Tryd.underlying30, sizeOf, typeInfo, hi, Builtin.lenOf, Builtin.firstCells, storeCells]
      · refine ⟨_, w, ?_, by rw [List.append_nil]; exact ⟨hown.1, .inr ⟨g, cap, cur, rfl, hg, hh, hnc, r⟩⟩, fun h => .inr ⟨by simpa using h, fun e => by cases e⟩, ⟨rfl, rfl, rfl, Nat.le_refl _, fun _ _ _ => rfl⟩⟩
        simp [Builtin.append_, run_underlying Tryd.underlying30, sizeOf, typeInfo, hi, Builtin.lenOf, Builtin.firstCells, hnc, storeCells]
    · obtain ⟨A, c, rfl, hc1, hc2, hrd⟩ := OwnS.sl strC_size hy
      obtain ⟨g, rfl, hg, hcell⟩ := hrd h0
      have hl : (rowL strC ys).length = ys.length * 1 := rowL_length strC_size ys
      have hcells : ∀ j u, (rowL strC ys)[j]? = some u → w.cell? ((⟨g, 0, none⟩ : Addr).add j) = some u := by
        intro j u hu
        have hj : j < ys.length := by
          rcases Nat.lt_or_ge j ys.length with h | h
          · exact h
          · rw [List.getElem?_eq_none (by rw [hl]; omega)] at hu; cases hu
        rw [Addr.add_lit, Nat.zero_add]
        have e1 := hcell j hj 0 (by decide)
        have e2 := rowL_get strC_size ys j hj 0 (by decide)
        rw [show j * 1 + 0 = j by omega] at e1 e2
        rw [e1, ← e2, hu]
      have hone : ∀ u ∈ rowL strC ys, u.oneCell' = true := by
        intro u hu
        obtain ⟨y, _, hy⟩ := List.mem_flatMap.1 hu
        simp [strC] at hy
        subst hy
        rfl
      obtain ⟨v', w', hrun, ho', hg', _, _⟩ := run_append_own_at (P := Tryd.prog) w B 30 o.type 9 i _ 1 16 Tryd.underlying30 hi hz h1 h2 rfl (by decide) v xs.length (rowL strC xs) hown ⟨g, 0, none⟩ ys.length c (rowL strC ys) hl hcells hone (by simp [maxLen]; omega) (by omega) hB
      refine ⟨v', w', hrun, ?_, fun h => ?_, hg'⟩
      · unfold OwnN OwnS
        rw [List.length_append]
        have e : rowL strC (xs ++ ys) = rowL strC xs ++ rowL strC ys := by unfold rowL; simp
        rw [e]
        exact ho'
      · have : ys = [] := (List.append_eq_nil_iff.1 h).2
        subst this
        simp at h0
  obtain ⟨v', w', hrun, ho', hv', hg'⟩ := key
  have := h v' w' ho' hv' hg'
  unfold Oper.wp execOp
  simp only [ho, resolve, invoke, builtin, Sem.run_bind, Sem.run_pure, Result.andThen_ok, List.map_toArray, List.map_cons, List.map_nil, hs, hx, hrun]
  exact this

def NamR (w : World) (xs : List ByteArray) (e : Ending) (w' : World) : Prop := ∃ v, e = .returned v ∧ OwnN w' w.heap.size v xs ∧ (xs = [] → v = .slice none 0 0) ∧ Nx w w'

set_option maxRecDepth 100000 in
set_option maxHeartbeats 3200000 in
theorem rnames_step (w : World) (s : ByteArray) (K Er : Nat) (N A B : ByteArray) (xa xb : List ByteArray) (hH : HeadS w s K N A B Er) (h63 : (xa.length : Int) + (xb.length : Int) ≤ 100000)
    (hA : Er = 0 → K = 13 ∨ K = 14 ∨ K = 15 → ∀ w, Calls Tryd.prog 12 #[.string A] w (NamR w xa))
    (hB : Er = 0 → K = 13 → ∀ w, Calls Tryd.prog 12 #[.string B] w (NamR w xb)) :
    Calls Tryd.prog 12 #[.string s] w (NamR w (if Er = 0 then (if K = 0 then [N] else if K = 13 then xa ++ xb else if K = 14 ∨ K = 15 then xa else []) else [])) := by
  have HH := Lib.hid hH
  have HA := Lib.hid hA
  have HB := Lib.hid hB
  obtain ⟨X, hX⟩ : ∃ X, Hid ((if Er = 0 then (if K = 0 then [N] else if K = 13 then xa ++ xb else if K = 14 ∨ K = 15 then xa else []) else []) = X) := ⟨_, rfl⟩
  rw [hX.out]
  clear hH hA hB
  go_enter Tryd.func12, Tryd.ntmps12
  go_wp2_with fail
  refine (show Calls _ _ _ _ _ from HH.out).mono ?_; rintro e w1 ⟨rfl, hn1⟩
  obtain ⟨g, hg⟩ : ∃ g, w1.heap.size = g := ⟨_, rfl⟩
  have hB2 := Blk.new w1 #[.int .i64 (K : Int), .string N, .string A, .string B] 27
  rw [hg] at hB2
  have hN2 := hn1.al (.cells #[.int .i64 (K : Int), .string N, .string A, .string B] 27)
  have HB2 := Lib.hid hB2
  have HN2 := Lib.hid hN2
  clear hB2 hN2 hn1
  go_upto_region 2 with fail
  generalize hW : World.alloc w1 _ = w2
  rw [hW] at HB2 HN2
  clear hW hg
  obtain ⟨c0, c1, c2, c3, f0, f1, f2, f3⟩ := cells4 HB2.out
  by_cases hE : Er = 0
  · have z0 : ((Er : Int) != 0) = false := by rw [bne_eq_false_iff_eq]; omega
    have hx0 := hX.out
    rw [if_pos hE] at hx0
    have HX0 := Lib.hid hx0
    have HA := Lib.hid (HA.out hE)
    have HB := Lib.hid (HB.out hE)
    clear hx0 hE
    by_cases hk0 : K = 0
    · have e0 : ((K : Int) == 0) = true := by rw [beq_iff_eq]; omega
      have HX : Hid (X = [N]) := by have := HX0.out; rw [if_pos hk0] at this; exact this.symm
      clear hk0
      go_wp2_with fail
      go_ret
      rw [HX.out]
      exact ⟨_, rfl, (OwnN.one w2 N w.heap.size HN2.out.size), fun h => by simp at h, HN2.out.al _⟩
    · have e0 : ((K : Int) == 0) = false := by rw [beq_eq_false_iff_ne]; omega
      by_cases h13 : K = 13
      · have e13 : ((K : Int) == 13) = true := by rw [beq_iff_eq]; omega
        have HX : Hid (X = xa ++ xb) := by have := HX0.out; rw [if_neg hk0, if_pos h13] at this; exact this.symm
        have HA := Lib.hid (HA.out (.inl h13))
        have HB := Lib.hid (HB.out h13)
        have H63 := Lib.hid h63
        clear h13 hk0 h63
        go_wp2_with fail
        clear c0 c1 c2 c3 f0 f1 f2 f3
        have L2 : ∀ x : Gr w2, x.1.cell? ⟨g, 2, none⟩ = some (.string A) := fun x => (HB2.out.below x.2).cell 2
        have L3 : ∀ x : Gr w2, x.1.cell? ⟨g, 3, none⟩ = some (.string B) := fun x => (HB2.out.below x.2).cell 3
        refine E.wp_region_hyb (st := 6) [(0, true), (1, true), (3, true), (4, true), (2, false), (5, false), (6, false), (7, false)] rfl (by kernel_rfl) ?_
        iterate 4 (refine E.hyb_calm rfl (fun K hK => ?_); go_simp; refine hK _ ?_; clear hK K)
        clear L2 L3
        refine E.hyb_alone rfl (fun w3 hn3 K hK => ?_)
        go_simp
        refine (HA.out w3).mono ?_; rintro e w4 ⟨v1, rfl, ho1, hv1, hw4⟩
        refine hK _ _ (.inr hw4) ?_
        clear hK K
        refine E.hyb_alone rfl (fun w5 hn5 K hK => ?_)
        go_simp
        refine (HB.out w5).mono ?_; rintro e w6 ⟨v2, rfl, ho2, hv2, hw6⟩
        refine hK _ _ (.inr hw6) ?_
        clear hK K
        refine E.hyb_alone rfl (fun w7 hn7 K hK => ?_)
        refine ite_intro rfl ?_
        have h1 : OwnN w7 w2.heap.size v1 xa := ((OwnS.less ho1 hn3.size).nx (hn5.trans (hw6.trans hn7)))
        have h2 : OwnN w7 w2.heap.size v2 xb := (OwnS.less ho2 ((hn3.trans (hw4.trans hn5)).size)).nx hn7
        have h37 := hn3.trans (hw4.trans (hn5.trans (hw6.trans hn7)))
        refine op_appNs w7 _ _ rfl w2.heap.size v1 v2 xa xb rfl h1 rfl h2 hv2 H63.out h37.size ?_
        intro v3 w8 ho3 hv3 hg3
        refine hK _ _ (.inl rfl) ?_
        clear hK K
        have hn8 : Nx w2 w8 := Nx.grownBy h37 hg3 (fun k e => (h1.own k e).1)
        refine E.hyb_alone rfl (fun w9 hn9 K hK => ?_)
        go_simp
        refine hK _ _ (.inr (Nx.refl _)) ?_
        clear hK K
        refine E.hyb_nil (fun w10 hn10 => ?_)
        go_wp2_with fail
        go_ret
        rw [HX.out]
        refine ⟨v3, rfl, OwnS.less (ho3.nx (hn9.trans hn10)) HN2.out.size, fun h => ?_, HN2.out.trans (hn8.trans (hn9.trans hn10))⟩
        rcases hv3 h with h | ⟨h, h4⟩
        · exact h
        · exact absurd (hv1 h) h4
      · have e13 : ((K : Int) == 13) = false := by rw [beq_eq_false_iff_ne]; omega
        by_cases h2 : K = 14 ∨ K = 15
        · have ht : ((K : Int) == 15) = true ∨ ((K : Int) == 15) = false ∧ ((K : Int) == 14) = true := by
            rcases h2 with rfl | rfl
            · exact .inr ⟨rfl, rfl⟩
            · exact .inl rfl
          have HX : Hid (X = xa) := by have := HX0.out; rw [if_neg hk0, if_neg h13, if_pos h2] at this; exact this.symm
          have HA := Lib.hid (HA.out (.inr h2))
          clear h13 h2 hk0
          rcases ht with t15 | ⟨t15, t14⟩
          all_goals
            go_wp2_with fail
            refine (HA.out w2).mono ?_; rintro e w3 ⟨v, rfl, ho, h0, hn3⟩
            go_wp2_with fail
            go_ret
            rw [HX.out]
            exact ⟨v, rfl, OwnS.less ho HN2.out.size, h0, HN2.out.trans hn3⟩
        · have t15 : ((K : Int) == 15) = false := by rw [beq_eq_false_iff_ne]; omega
          have t14 : ((K : Int) == 14) = false := by rw [beq_eq_false_iff_ne]; omega
          have HX : Hid (X = []) := by have := HX0.out; rw [if_neg hk0, if_neg h13, if_neg h2] at this; exact this.symm
          clear h13 h2 hk0
          go_wp2_with fail
          go_ret
          rw [HX.out]
          exact ⟨_, rfl, OwnS.nil_ _ _, fun _ => rfl, HN2.out⟩
  · have z0 : ((Er : Int) != 0) = true := by rw [bne_iff_ne]; omega
    have HX : Hid (X = []) := by have := hX.out; rw [if_neg hE] at this; exact this.symm
    clear hE
    go_wp2_with fail
    go_ret
    rw [HX.out]
    exact ⟨_, rfl, OwnS.nil_ _ _, fun _ => rfl, HN2.out⟩
end Go.Proofs.YtpaacfoiiihbeaaDoor
