/- KindNames: names stand in order. -/
import Derived.Test.YtpaacfoiiihbeaaDoorKinT
set_option linter.unusedVariables false
set_option linter.unusedSimpArgs false
namespace Go.Proofs.YtpaacfoiiihbeaaDoor
open Go.RowKit

def nmL (k : Nat) : List UInt8 := if k = 0 then [97] else if k = 1 then [98, 46, 67] else if k = 2 then [120, 95, 49] else [100, 46, 101, 46, 102]
def kNm : Array Value := #[.string ⟨#[97]⟩, .string ⟨#[98, 46, 67]⟩, .string ⟨#[120, 95, 49]⟩, .string ⟨#[100, 46, 101, 46, 102]⟩]
theorem kNm_at (k : Nat) (h : k < 4) : kNm[k]? = some (.string (bA (nmL k))) := by
  rcases (show k = 0 ∨ k = 1 ∨ k = 2 ∨ k = 3 by omega) with rfl | rfl | rfl | rfl <;> rfl
theorem nmL_wf (k : Nat) : wfT (.nm (nmL k)) ∧ (nmL k).length ≤ 5 := by
  unfold nmL
  split
  · exact ⟨⟨by decide, by decide⟩, by decide⟩
  · split
    · exact ⟨⟨by decide, by decide⟩, by decide⟩
    · split
      · exact ⟨⟨by decide, by decide⟩, by decide⟩
      · exact ⟨⟨by decide, by decide⟩, by decide⟩
def mixT (c : UInt8) (t : Ty) : Ty := if c.toNat / 4 % 3 = 0 then .mp (.nm (nmL (c.toNat % 4))) t else if c.toNat / 4 % 3 = 1 then .mp t (.nm (nmL (c.toNat % 4))) else .l1 15 t
def mixesT : List UInt8 → Ty → Ty
  | [], t => t
  | c :: l, t => mixesT l (mixT c t)
theorem mixes_snoc (l : List UInt8) (c : UInt8) (t : Ty) : mixesT (l ++ [c]) t = mixT c (mixesT l t) := by
  induction l generalizing t with
  | nil => rfl
  | cons d l ih => exact ih _
theorem mix_ok (c : UInt8) (t : Ty) (h : wfT t) : wfT (mixT c t) ∧ depthT (mixT c t) ≤ depthT t + 1 ∧ (namesT (mixT c t)).length ≤ (namesT t).length + 1 ∧ (showT (mixT c t)).length ≤ (showT t).length + 11 := by
  have hn := nmL_wf (c.toNat % 4)
  unfold mixT
  split
  · exact ⟨⟨hn.1, h⟩, by simp [depthT], by simp [namesT], by simp [showT, wordK]; omega⟩
  · split
    · exact ⟨⟨h, hn.1⟩, by simp [depthT], by simp [namesT], by simp [showT, wordK]; omega⟩
    · exact ⟨⟨.inr rfl, h⟩, Nat.le_refl _, by simp [namesT], by simp [showT, wordK]⟩
theorem mixes_ok (l : List UInt8) (t : Ty) (h : wfT t) : wfT (mixesT l t) ∧ depthT (mixesT l t) ≤ depthT t + l.length ∧ (namesT (mixesT l t)).length ≤ (namesT t).length + l.length ∧ (showT (mixesT l t)).length ≤ (showT t).length + 11 * l.length := by
  induction l generalizing t with
  | nil => exact ⟨h, Nat.le_refl _, Nat.le_refl _, Nat.le_refl _⟩
  | cons c l ih =>
    obtain ⟨h1, h2, h3, h4⟩ := mix_ok c t h
    obtain ⟨g1, g2, g3, g4⟩ := ih (mixT c t) h1
    exact ⟨g1, by show depthT (mixesT l (mixT c t)) ≤ _; rw [List.length_cons]; omega, by show (namesT (mixesT l (mixT c t))).length ≤ _; rw [List.length_cons]; omega, by show (showT (mixesT l (mixT c t))).length ≤ _; rw [List.length_cons]; omega⟩
theorem mix_0 (c : UInt8) (t : Ty) (h : c.toNat / 4 % 3 = 0) : showT (mixT c t) = [109, 97, 112, 60] ++ nmL (c.toNat % 4) ++ [44] ++ showT t ++ [62] ∧ nmB (mixT c t) = [bA (nmL (c.toNat % 4))] ++ nmB t := by
  unfold mixT; rw [if_pos h]; exact ⟨by simp [showT, wordK], rfl⟩
theorem mix_1 (c : UInt8) (t : Ty) (h : c.toNat / 4 % 3 = 1) : showT (mixT c t) = [109, 97, 112, 60] ++ showT t ++ [44] ++ nmL (c.toNat % 4) ++ [62] ∧ nmB (mixT c t) = nmB t ++ [bA (nmL (c.toNat % 4))] := by
  unfold mixT; rw [if_neg (by omega), if_pos h]; exact ⟨by simp [showT, wordK], by simp [nmB, namesT, bA]⟩
theorem mix_2 (c : UInt8) (t : Ty) (h : c.toNat / 4 % 3 = 2) : showT (mixT c t) = [108, 105, 115, 116, 60] ++ showT t ++ [62] ∧ nmB (mixT c t) = nmB t := by
  unfold mixT; rw [if_neg (by omega), if_neg (by omega)]; exact ⟨by simp [showT, wordK], rfl⟩
theorem names_wf (t : Ty) (h : wfT t) : ∀ x ∈ namesT t, wfT (.nm x) := by
  induction t with
  | nm s => intro x hx; simp [namesT] at hx; subst hx; exact h
  | bs k => intro x hx; simp [namesT] at hx
  | l1 k a ih => exact ih h.2
  | mp a b iha ihb =>
    intro x hx
    simp [namesT] at hx
    rcases hx with hx | hx
    · exact iha h.1 x hx
    · exact ihb h.2 x hx

theorem names_elem (t : Ty) : ∀ x ∈ namesT t, x.length ≤ (showT t).length := by
  induction t with
  | nm s => intro x hx; simp [namesT] at hx; subst hx; exact Nat.le_refl _
  | bs k => intro x hx; simp [namesT] at hx
  | l1 k a ih => intro x hx; have := ih x hx; simp [showT]; omega
  | mp a b iha ihb =>
    intro x hx
    simp [namesT] at hx
    rcases hx with hx | hx
    · have := iha x hx; simp [showT]; omega
    · have := ihb x hx; simp [showT]; omega
theorem div_mod_u8 (x : UInt8) (k : Nat) (h : x.toNat / 4 % 3 = k) : (x.toNat : Int) / 4 % 256 % 3 = (k : Int) := by
  have h1 : x.toNat < 256 := x.toNat_lt
  have h2 : x.toNat / 4 % 256 = x.toNat / 4 := Nat.mod_eq_of_lt (by omega)
  have h3 : x.toNat / 4 % 256 % 3 = k := by rw [h2]; exact h
  omega
/-- a slice of one text, just built -/
theorem OwnN.one (w : World) (y : ByteArray) (B : Nat) (hB : B ≤ w.heap.size) : OwnN (w.alloc (.cells #[.string y] 9)) B (.slice (some ⟨w.heap.size, 0, none⟩) 1 1) [y] :=
  ⟨rfl, .inr ⟨w.heap.size, 1, #[.string y], rfl, hB, heap_alloc_new w _, Nat.le_refl _, by decide, rfl, rfl⟩⟩
/-- append of texts -/
theorem wpList_appNs (w : World) {ops : Array Oper} {rest : List Oper} {o : Oper} {a : Act} {Q : Exit → Act → World → Prop} (hgd : o.guard = none) (s x : Operand)
    (ho : o.op = .call { callee := .builtin .append, args := #[s, x], argTypes := #[30, 30] })
    (B : Nat) (v : Value) (xs ys : List ByteArray) (hs : a.eval s = v) (hown : OwnN w B v xs) (A : Option Addr) (c : Nat) (hx : a.eval x = .slice A ys.length c)
    (hy : RdS strC 1 w A ys) (hc : ys.length = 0 → v ≠ .slice none 0 0) (h63 : (xs.length : Int) + (ys.length : Int) ≤ 100000) (hB : B ≤ w.heap.size)
    (h : ∀ v' w', OwnN w' B v' (xs ++ ys) → w.grownBy w' v.ownBlock → wpList Tryd.prog ops Q rest (a.put o.dst v') w') : wpList Tryd.prog ops Q (o :: rest) a w := by
  refine wpList_plain hgd fun K hK => ?_
  obtain ⟨i, hi, hz, h1, h2⟩ := info_parts (show (Tryd.prog.info? 9).map (fun i => (i.zero, i.size, i.bytes)) = some (some (.string ⟨#[]⟩), 1, 16) by kernel_rfl)
  have key : ∃ v' w', (Builtin.append_ #[30, 30] o.type #[v, .slice A ys.length c]).run Tryd.prog w = .ok v' w' ∧ OwnN w' B v' (xs ++ ys) ∧ w.grownBy w' v.ownBlock := by
    rcases Nat.eq_zero_or_pos ys.length with h0 | h0
    · have hn := hc h0
      obtain rfl := List.eq_nil_of_length_eq_zero h0
      rcases hown.2 with ⟨rfl, h3⟩ | ⟨g, cap, cur, rfl, hg, hh, hnc, r⟩
      · exact absurd rfl hn
      · refine ⟨_, w, ?_, by rw [List.append_nil]; exact ⟨hown.1, .inr ⟨g, cap, cur, rfl, hg, hh, hnc, r⟩⟩, ⟨rfl, rfl, rfl, Nat.le_refl _, fun _ _ _ => rfl⟩⟩
        cases A with
        | none => simp [Builtin.append_, run_underlying Tryd.underlying30, sizeOf, typeInfo, hi, Builtin.lenOf, Builtin.firstCells, hnc, storeCells]
        | some ad => simp [Builtin.append_, run_underlying Tryd.underlying30, sizeOf, typeInfo, hi, Builtin.lenOf, Builtin.firstCells, hnc, storeCells, loadCells, loadCellsFrom]
    · obtain ⟨g, rfl, hg, hcell⟩ := hy h0
      have hl : (rowL strC ys).length = ys.length * 1 := rowL_length strC_size ys
      have hcells : ∀ j u, (rowL strC ys)[j]? = some u → w.cell? ((⟨g, 0, none⟩ : Addr).add j) = some u := by
        intro j u hu
        have hj : j < ys.length := by
          rcases Nat.lt_or_ge j ys.length with h | h
          · exact h
          · rw [List.getElem?_eq_none (by rw [hl]; omega)] at hu; cases hu
        rw [Addr.add_lit, Nat.zero_add]
        have e1 := hcell j hj 0 (by decide)
        have e2 := rowL_get strC_size ys j hj 0 (by decide)
        rw [show j * 1 + 0 = j by omega] at e1 e2
        rw [e1, ← e2, hu]
      have hone : ∀ u ∈ rowL strC ys, u.oneCell' = true := by
        intro u hu
        obtain ⟨y, _, hy⟩ := List.mem_flatMap.1 hu
        simp [strC] at hy
        subst hy
        rfl
      obtain ⟨v', w', hrun, ho', hg', _, _⟩ := run_append_own_at (P := Tryd.prog) w B 30 o.type 9 i _ 1 16 Tryd.underlying30 hi hz h1 h2 rfl (by decide) v xs.length (rowL strC xs) hown ⟨g, 0, none⟩ ys.length c (rowL strC ys) hl hcells hone (by simp [maxLen]; omega) (by omega) hB
      refine ⟨v', w', hrun, ?_, hg'⟩
      unfold OwnN OwnS
      rw [List.length_append]
      have e : rowL strC (xs ++ ys) = rowL strC xs ++ rowL strC ys := by unfold rowL; simp
      rw [e]
      exact ho'
  obtain ⟨v', w', hrun, ho', hg'⟩ := key
  have := hK _ _ (h v' w' ho' hg')
  unfold Oper.wp execOp
  simp only [ho, resolve, invoke, builtin, Sem.run_bind, Sem.run_pure, Result.andThen_ok, List.map_toArray, List.map_cons, List.map_nil, hs, hx, hrun]
  exact this
theorem Nx.grownBy {w w1 w' : World} {v : Value} (hn : Nx w w1) (h : w1.grownBy w' v.ownBlock) (hv : ∀ k, v.ownBlock = some k → w.heap.size ≤ k) : Nx w w' :=
  ⟨h.os.trans hn.os, h.tape.trans hn.tape, h.output.trans hn.output, Nat.le_trans hn.size h.size, fun k hk => (h.block k (Nat.lt_of_lt_of_le hk hn.size) (fun e => by have := hv k e.symm; omega)).trans (hn.block k hk)⟩

set_option maxRecDepth 100000 in
set_option maxHeartbeats 6400000 in
theorem KindNames_walk (A : Option Addr) (xs : List UInt8) (c : Nat) (w : World) (ht : TabK w) (hm : MaxC w) (hr : Rd bv w A xs) (hc1 : xs.length ≤ c) (hc2 : c ≤ maxLen) :
    Calls Tryd.prog 7 #[.slice A xs.length c] w fun e w' => e = .returned (.bool true) ∧ Below w.heap.size w w' := by
  have HT := Lib.hid ht
  have HM := Lib.hid hm
  have HR := Lib.hid hr
  clear ht hm hr
  by_cases hlong : 4 < xs.length
  · have g1 : decide ((4 : Int) < (xs.length : Int)) = true := decide_eq_true (by omega)
    clear hlong
    go_enter Tryd.func7, Tryd.ntmps7
    go_wp2_with fail
    refine (kbegun_any w HT.out HM.out).mono ?_; rintro e w1 ⟨rfl, hn1⟩
    go_wp2_with fail
    go_ret
    exact ⟨rfl, hn1⟩
  · have g1 : decide ((4 : Int) < (xs.length : Int)) = false := decide_eq_false (by omega)
    have hx4 : xs.length ≤ 4 := by omega
    clear hlong
    go_enter Tryd.func7, Tryd.ntmps7
    go_wp2_with fail
    refine (kbegun_any w HT.out HM.out).mono ?_; rintro e w1 ⟨rfl, hn1⟩
    have HN1 := Lib.hid hn1
    clear hn1
    go_wp2_with fail
    obtain ⟨g, hg⟩ : ∃ g, w1.heap.size = g := ⟨_, rfl⟩
    rw [hg]
    generalize hW : World.alloc _ _ = W
    have HBt : Hid (Blk W g g kNm 9) := by unfold Hid; rw [← hW, ← hg]; exact Blk.new w1 kNm _
    have HNW : Hid (Nx w W) := by unfold Hid; rw [← hW]; exact HN1.out.al _
    clear hW
    go_loopw [4, 5, 6] (fun sv nv iv wr => ∃ (i : Nat) (s : ByteArray), sv = .string s ∧ iv = .int .i64 (i : Int) ∧ i ≤ xs.length ∧ Hid (Tx s (showT (mixesT (xs.take i) (.bs 3)))) ∧ OwnN wr W.heap.size nv (nmB (mixesT (xs.take i) (.bs 3))) ∧ Nx W wr) (fun _ _ iv _ => 10 - (intOf iv).toNat)
    case atStart => exact ⟨0, ⟨#[105, 56]⟩, rfl, rfl, Nat.zero_le _, rfl, OwnS.nil_ _ _, Nx.refl _⟩
    case round =>
      obtain ⟨i, s, rfl, rfl, hi, HS, hown, hnx⟩ := hrel
      have HOW := Lib.hid hown
      have HNX := Lib.hid hnx
      have hok := mixes_ok (xs.take i) (.bs 3) (by simp [wfT, isBs])
      have htl : (xs.take i).length ≤ 4 := by have := List.length_take_le i xs; have := List.length_take_le' i xs; omega
      have hsl : s.size ≤ 60 := by
        rw [HS.out.size]
        have h4 := hok.2.2.2
        have h5 : (showT (.bs 3)).length = 2 := rfl
        omega
      have hnl : (nmB (mixesT (xs.take i) (.bs 3))).length ≤ 4 := by
        rw [nmB_len]
        have h4 := hok.2.2.1
        have h5 : (namesT (.bs 3)).length = 0 := rfl
        omega
      by_cases hlt : i < xs.length
      · have hkd : decide ((i : Int) < (xs.length : Int)) = true := decide_eq_true (by omega)
        have hiI : (i : Int) < (xs.length : Int) := by omega
        obtain ⟨g', off, rfl, hg', hcell⟩ := (HR.out.below (HNW.out.trans hnx)).at_ hlt
        obtain ⟨x, hx⟩ : ∃ x, Hid (xs[i] = x) := ⟨xs[i], Lib.hid rfl⟩
        rw [hx.out] at hcell
        have hst : xs.take (i + 1) = xs.take i ++ [x] := by rw [List.take_succ_eq_append_getElem hlt, hx.out]
        have hns := mixes_snoc (xs.take i) x (.bs 3)
        rw [← hst] at hns
        have HNS := Lib.hid hns
        have hcell2 : wr.cell? ⟨g', off + i, none⟩ = some (.int .u8 (x.toNat : Int)) := hcell
        obtain ⟨m, hm4⟩ : ∃ m, x.toNat % 4 = m := ⟨_, rfl⟩
        have hm4' : m < 4 := by omega
        obtain ⟨y, hy⟩ : ∃ y, Hid (bA (nmL m) = y) := ⟨_, rfl⟩
        have hcy : wr.cell? ⟨g, m, none⟩ = some (.string y) := by
          rw [← hy.out]
          exact ((HBt.out.below hnx).cell m).trans (kNm_at m hm4')
        have HTY : Hid (Tx y (nmL m)) := by unfold Hid; rw [← hy.out]; exact Tx.of _
        have hyl : y.size ≤ 5 := by rw [HTY.out.size]; exact (nmL_wf m).2
        have hmod : (x.toNat : Int) % 4 = (m : Int) := by omega
        have hmI : (m : Int) < 4 := by omega
        have HM4 := Lib.hid hm4
        obtain ⟨T, hT⟩ : ∃ T, mixesT (xs.take i) (.bs 3) = T := ⟨_, rfl⟩
        rw [hT] at HS HOW HNS hnl
        obtain ⟨ws, hws⟩ : ∃ ws, Hid (nmB T = ws) := ⟨_, rfl⟩
        rw [hws.out] at HOW hnl
        clear hns hst hcell hok hg' hown hnx hT hm4 hm4' htl
        rcases (show x.toNat / 4 % 3 = 0 ∨ x.toNat / 4 % 3 = 1 ∨ x.toNat / 4 % 3 = 2 by omega) with h0 | h0 | h0
        · have HXM := Lib.hid h0
          have hq : (x.toNat : Int) / 4 % 256 % 3 = 0 := div_mod_u8 x 0 h0
          obtain ⟨A5, c5, hv5, -, -, hrd5⟩ := OwnS.sl strC_size HOW.out
          obtain ⟨N5, hN5⟩ : ∃ N5, ws.length = N5 := ⟨_, rfl⟩
          have hv5' := hv5
          rw [hN5] at hv5
          subst hv5
          have HV5 := Lib.hid hv5'
          have HL5 := Lib.hid hN5
          have HZ : Hid (W.heap.size ≤ wr.heap.size) := HNX.out.size
          have HO1 := Lib.hid (OwnN.one wr y W.heap.size HZ.out)
          have HRD := Lib.hid (RdS.nx hrd5 (nx0 wr (.cells #[.string y] 9)))
          have HNE : Hid (ws.length = 0 → (Value.slice (some ⟨wr.heap.size, 0, none⟩) 1 1) ≠ .slice none 0 0) := fun _ h => by cases h
          have H63 : Hid ((([y] : List ByteArray).length : Int) + (ws.length : Int) ≤ 100000) := by unfold Hid; simp; omega
          have HBZ : Hid (W.heap.size ≤ (wr.alloc (.cells #[.string y] 9)).heap.size) := Nat.le_trans HZ.out (nx0 wr _).size
          have HEV : Hid (Value.slice A5 N5 c5 = .slice A5 ws.length c5) := by unfold Hid; rw [hN5]
          clear h0 hrd5 hN5 hv5'
          go_wp2_with (refine wpList_appNs _ (o := ⟨some 55, _, _, _, _, _⟩) rfl _ _ rfl W.heap.size (.slice (some ⟨wr.heap.size, 0, none⟩) 1 1) [y] ws rfl HO1.out A5 c5 HEV.out HRD.out HNE.out H63.out HBZ.out ?_; intro v5 w5 hown5 hgb5; have HOW5 := Lib.hid hown5; have HGB5 := Lib.hid hgb5; clear hown5 hgb5)
          have hnx5 : Nx W w5 := Nx.grownBy (HNX.out.trans (nx0 wr (.cells #[.string y] 9))) HGB5.out (fun k e => by simp [Value.ownBlock] at e; subst e; exact HZ.out)
          have hmx := mix_0 x T HXM.out
          rw [HM4.out, hy.out, hws.out] at hmx
          refine ⟨⟨i + 1, _, rfl, by go_num, hlt, ?_, ?_, hnx5⟩, by simp [intOf]; omega⟩
          · unfold Hid
            rw [HNS.out, hmx.1]
            exact Tx.app (Tx.app (Tx.app (Tx.app (Tx.of _) HTY.out) (Tx.of _)) HS.out) (Tx.of _)
          · rw [HNS.out, hmx.2]
            exact HOW5.out
        · have HXM := Lib.hid h0
          have hq : (x.toNat : Int) / 4 % 256 % 3 = 1 := div_mod_u8 x 1 h0
          have HO4 : Hid (OwnN (wr.alloc (.cells #[.string y] 9)) W.heap.size u5 ws) := HOW.out.nx (nx0 _ _)
          have HC4 : Hid ((wr.alloc (.cells #[.string y] 9)).cell? ⟨wr.heap.size, 0, none⟩ = some (.string y)) := (Blk.new wr #[.string y] 9).cell 0
          have HBZ : Hid (W.heap.size ≤ (wr.alloc (.cells #[.string y] 9)).heap.size) := Nat.le_trans HNX.out.size (nx0 wr _).size
          have h63 : (ws.length : Int) ≤ 100000 := by omega
          clear h0
          go_wp2_with (refine wpList_appN _ (o := ⟨some 67, _, _, _, _, _⟩) rfl _ _ rfl W.heap.size u5 ws y rfl HO4.out _ rfl HC4.out h63 HBZ.out ?_; intro v5 w5 hown5 hfr5; have HOW5 := Lib.hid hown5; have HFR5 := Lib.hid hfr5; clear hfr5 hown5)
          have hnx5 : Nx W w5 := by
            have h1 := (HFR5.out W.heap.size).mono (nx0 wr (.cells #[.string y] 9))
            exact h1.to HNX.out (Nat.le_refl _) (fun k e => (HOW.out.own k e).1)
          have hmx := mix_1 x T HXM.out
          rw [HM4.out, hy.out, hws.out] at hmx
          refine ⟨⟨i + 1, _, rfl, by go_num, hlt, ?_, ?_, hnx5⟩, by simp [intOf]; omega⟩
          · unfold Hid
            rw [HNS.out, hmx.1]
            exact Tx.app (Tx.app (Tx.app (Tx.app (Tx.of _) HS.out) (Tx.of _)) HTY.out) (Tx.of _)
          · rw [HNS.out, hmx.2]
            exact HOW5.out
        · have HXM := Lib.hid h0
          have hq : (x.toNat : Int) / 4 % 256 % 3 = 2 := div_mod_u8 x 2 h0
          clear h0
          go_wp2_with fail
          have hmx := mix_2 x T HXM.out
          rw [hws.out] at hmx
          refine ⟨⟨i + 1, _, rfl, by go_num, hlt, ?_, ?_, HNX.out⟩, by simp [intOf]; omega⟩
          · unfold Hid
            rw [HNS.out, hmx.1]
            exact Tx.app (Tx.app (Tx.of _) HS.out) (Tx.of _)
          · rw [HNS.out, hmx.2]
            exact HOW.out
      · obtain rfl : i = xs.length := by omega
        rw [List.take_length] at HS hok HOW hnl
        obtain ⟨T, hT⟩ : ∃ T, mixesT xs (.bs 3) = T := ⟨_, rfl⟩
        rw [hT] at HS hok HOW hnl
        obtain ⟨hwf, hdp, hnm, hln⟩ := hok
        have hd12 : depthT T ≤ 12 := by simp only [depthT] at hdp; omega
        have h8 : ((showT T).length : Int) ≤ 8000 := by rw [← HS.out.size]; omega
        have hw := wholeT_full T hwf hd12
        have HSw := HS.out
        have HNm : Hid (∀ w, TabK w → MaxC w → Calls Tryd.prog 11 #[.string s] w fun e w' => ∃ v, e = .returned v ∧ OwnN w' w.heap.size v (nmB T) ∧ Nx w w') := by
          intro w ht hm
          have := names_any w s (showT T) HSw h8 ht hm
          unfold namesW at this
          rw [hw, if_neg (fun h => h rfl)] at this
          exact this
        have HEL : Hid (∀ j (h : j < (nmB T).length), ∃ n, (nmB T)[j] = bA n ∧ wfT (.nm n) ∧ n.length ≤ 8000) := by
          intro j h
          have hj : j < (namesT T).length := by rw [← nmB_len]; exact h
          refine ⟨(namesT T)[j], by simp [nmB, bA], names_wf T hwf _ (List.getElem_mem hj), ?_⟩
          have h1 := names_elem T _ (List.getElem_mem hj)
          omega
        obtain ⟨ws, hws⟩ : ∃ ws, nmB T = ws := ⟨_, rfl⟩
        rw [hws] at HNm HEL HOW hnl
        obtain ⟨A5, c5, hv5, hc5a, hc5b, hrd5⟩ := OwnS.sl strC_size HOW.out
        subst hv5
        have HRD5 := Lib.hid hrd5
        have HNr := Lib.hid (HNW.out.trans hnx)
        have g2 : ((ws.length : Int) != (ws.length : Int)) = false := by simp
        have g3 : decide ((xs.length : Int) < (xs.length : Int)) = false := decide_eq_false (by omega)
        clear hT hwf hdp hnm hln hd12 h8 hw HSw hws hrd5 hown hnx hlt
        go_wp2_with fail
        refine (HNm.out wr (HT.out.nx HNr.out) (HM.out.nx HNr.out)).mono ?_; rintro e w8 ⟨v8, rfl, ho8, hn8⟩
        obtain ⟨A8, c8, rfl, -, -, hrd8⟩ := OwnS.sl strC_size ho8
        have HRD8 := Lib.hid hrd8
        have HRD58 := Lib.hid (RdS.nx HRD5.out hn8)
        have HN8 := Lib.hid (HNr.out.trans hn8)
        clear ho8 hrd8 hn8
        go_wp2_with fail
        go_loopw [9] (fun iv wr => ∃ j : Nat, iv = .int .i64 (j : Int) ∧ j ≤ ws.length ∧ Nx w8 wr) (fun iv _ => 20 - (intOf iv).toNat)
        case atStart => exact ⟨0, rfl, Nat.zero_le _, Nx.refl _⟩
        case round =>
          obtain ⟨j, rfl, hj, hnxr⟩ := hrel
          have HNX2 := Lib.hid hnxr
          by_cases hjl : j < ws.length
          · obtain ⟨g8, rfl, hg8, hc8⟩ := RdS.nx HRD8.out hnxr (by omega)
            obtain ⟨g5, rfl, hg5, hc5⟩ := RdS.nx HRD58.out hnxr (by omega)
            obtain ⟨n, hn1, hn2, hn3⟩ := HEL.out j hjl
            have e8 := hc8 j hjl 0 (by decide)
            have e5 := hc5 j hjl 0 (by decide)
            rw [hn1] at e8 e5
            obtain ⟨y, hy⟩ : ∃ y, Hid (bA n = y) := ⟨_, rfl⟩
            rw [hy.out] at e8 e5
            have k8 : wr.cell? ⟨g8, j, none⟩ = some (.string y) := by simpa [strC] using e8
            have k5 : wr.cell? ⟨g5, j, none⟩ = some (.string y) := by simpa [strC] using e5
            have HTY : Hid (Tx y n) := by unfold Hid; rw [← hy.out]; exact Tx.of _
            have HHd : Hid (∀ w, TabK w → MaxC w → Calls Tryd.prog 9 #[.string y] w fun e w' => e = .returned (.tuple #[.int .i64 0, .string y, .string ⟨#[]⟩, .string ⟨#[]⟩, .int .i64 0]) ∧ Nx w w') := by
              intro w ht hm
              have hw := wholeT_full (.nm n) hn2 (Nat.zero_le _)
              have := head_any w y n HTY.out (by omega) ht hm
              unfold headW at this
              rw [show n = showT (.nm n) from rfl, hw, if_neg (fun h => h rfl)] at this
              rw [← hy.out]
              rw [← hy.out] at this
              exact this
            have HK8 := Lib.hid k8
            have HK5 := Lib.hid k5
            have HG8 := Lib.hid hg8
            have HG5 := Lib.hid hg5
            have hjI : (j : Int) < (ws.length : Int) := by omega
            have hjd : decide ((j : Int) < (ws.length : Int)) = true := decide_eq_true hjI
            clear hc8 hc5 hn1 hn2 hn3 e8 e5 hg8 hg5 hnxr k5
            go_wp2_with fail
            refine (HHd.out wr (HT.out.nx (HN8.out.trans HNX2.out)) (HM.out.nx (HN8.out.trans HNX2.out))).mono ?_; rintro e w9 ⟨rfl, hn9⟩
            have k8' : w9.cell? ⟨g8, j, none⟩ = some (.string y) := (hn9.cell (p := ⟨g8, j, none⟩) HG8.out).trans HK8.out
            have k5' : w9.cell? ⟨g5, j, none⟩ = some (.string y) := (hn9.cell (p := ⟨g5, j, none⟩) HG5.out).trans HK5.out
            have HN9 := Lib.hid (HNX2.out.trans hn9)
            have hyy : (y.toList != y.toList) = false := by simp
            clear k8 hn9
            go_wp2_with fail
            go_quiet (fail)
            go_wp2_with fail
            go_roundw
            case rel => first | exact ⟨j + 1, by go_num, hjl, HN9.out.dr _⟩ | ((repeat apply Exists.intro); exact ⟨⟨j + 1, rfl, hjl, HN9.out.dr _⟩, rfl⟩)
            case measure => simp [intOf]; omega
          · have hjd : decide ((j : Int) < (ws.length : Int)) = false := decide_eq_false (by omega)
            have hjn : ¬ j < ws.length := hjl
            clear hnxr
            go_wp2_with fail
            go_ret
            exact ⟨rfl, HN8.out.trans HNX2.out⟩
end Go.Proofs.YtpaacfoiiihbeaaDoor
