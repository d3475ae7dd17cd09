/- A struct's fields, by their numbers: order.sortFields. -/
import Derived.Test.YtjeadmndnbggmaaOrU
import Derived.Test.YtjeadmndnbggmaaRowO
set_option linter.unusedVariables false
set_option linter.unusedSimpArgs false
namespace Go.Proofs.Ytjeadmndnbggmaa
open Go.RowKit

def fI (n : Int) : Array Value := #[.int .i64 n]
theorem fI_size (n : Int) : (fI n).size = 1 := rfl
theorem infoI : (Try.prog.info? 3).map (fun i => (i.zero, i.size, i.bytes)) = some (some (.int .i64 0), 1, 8) := by kernel_rfl
theorem OwnS.apart {α β : Type} {f1 : α → Array Value} {f2 : β → Array Value} {k1 k2 : Nat} {T1 T2 : TypeId} (hT : T1 ≠ T2) {w w' : World} {B1 B : Nat} {v1 v2 : Value} {xs : List α} {ys : List β} (h1 : OwnS f1 k1 T1 w B1 v1 xs) (h2 : OwnS f2 k2 T2 w B v2 ys)
    (hk : ∀ k, k < w.heap.size → v1.ownBlock ≠ some k → w'.heap[k]? = w.heap[k]?) : OwnS f2 k2 T2 w' B v2 ys := by
  obtain ⟨a1, a2⟩ := h2
  refine ⟨a1, ?_⟩
  rcases a2 with a2 | ⟨g, cap, cur, hv, hg, hh, r⟩
  · exact .inl a2
  · refine .inr ⟨g, cap, cur, hv, hg, ?_, r⟩
    have hlt : g < w.heap.size := by
      rcases Nat.lt_or_ge g w.heap.size with h | h
      · exact h
      · rw [Array.getElem?_eq_none h] at hh; cases hh
    rw [hk g hlt (fun e => ?_)]
    · exact hh
    · rcases h1.2 with ⟨e1, -⟩ | ⟨g', cap', cur', hv', -, hh', -⟩
      · rw [e1] at e; cases e
      · rw [hv'] at e
        have : g' = g := by simpa [Value.ownBlock] using e
        subst this
        rw [hh] at hh'
        simp only [Option.some.injEq, Obj.cells.injEq] at hh'
        exact hT hh'.2.1.symm
theorem sf_len (w : World) (A1 A2 : Option Addr) (n1 c1 n2 c2 : Nat) (hn : n1 ≠ n2) : Calls Try.prog 14 #[.slice A1 n1 c1, .slice A2 n2 c2] w fun e w' => e = .returned (.tuple #[.slice none 0 0, .slice none 0 0, .int .i64 1]) ∧ Nx w w' := by
  obtain ⟨g1, hg1⟩ : ∃ g, w.heap.size = g := ⟨_, rfl⟩
  obtain ⟨w1, hw1⟩ : ∃ x, w.alloc (.cells #[.slice A1 n1 c1] 27) = x := ⟨_, rfl⟩
  have hb1 : Blk w1 g1 g1 #[.slice A1 n1 c1] 27 := by rw [← hw1, ← hg1]; exact Blk.new w _ _
  have HN1 : Hid (Nx w w1) := by rw [← hw1]; exact nx0 _ _
  have a0 : w1.cell? ⟨g1, 0, none⟩ = some (.slice A1 n1 c1) := hb1.cell 0
  have e1 : ((n1 : Int) == (n2 : Int)) = false := by rw [beq_eq_false_iff_ne]; omega
  have e2 : (n1 == n2) = false := by rw [beq_eq_false_iff_ne]; omega
  clear hb1 hn
  go_enter Try.func14, Try.ntmps14
  go_wp2_with fail
  clear hw1
  go_ret3
  exact ⟨rfl, HN1.out⟩
set_option maxRecDepth 100000 in
set_option maxHeartbeats 6400000 in
theorem nums_any (w : World) (gb : Nat) (A : Option Addr) (n c : Nat) (is : List Int) (hn : is.length = n) (hn9 : n ≤ 100) (hg : w.cell? ⟨gb, 0, none⟩ = some (.slice A n c)) (hgs : gb < w.heap.size)
    (hr : Rd (Value.int .i64) w A is) (gr : Nat) (hgr : w.heap.size ≤ gr) :
    CmpN 27 gb gr n (fun i => is.getD i 0) w := by
  intro wr hot i j hi hj
  have hwx : ∀ (x : Gr wr) (p : Addr), p.block < w.heap.size → x.1.cell? p = w.cell? p := fun x p hp => by
    have hlt : p.block < wr.heap.size := Nat.lt_of_lt_of_le hp hot.size
    rw [x.2.cell (p := p) hlt]
    unfold World.cell?
    rw [hot.block p.block hp (by omega)]
  have hg' : ∀ x : Gr wr, x.1.cell? ⟨gb, 0, none⟩ = some (.slice A n c) := fun x => by rw [hwx x _ hgs, hg]
  obtain ⟨g, off, rfl, hg2, hc⟩ := hr (by omega)
  obtain ⟨X, hX⟩ : ∃ X, is.getD i 0 = X := ⟨_, rfl⟩
  obtain ⟨Y, hY⟩ : ∃ Y, is.getD j 0 = Y := ⟨_, rfl⟩
  have ci : ∀ x : Gr wr, x.1.cell? ⟨g, off + i, none⟩ = some (.int .i64 X) := fun x => by
    rw [hwx x _ hg2, hc i (by omega), ← hX]; simp [List.getD, show i < is.length by omega]
  have cj : ∀ x : Gr wr, x.1.cell? ⟨g, off + j, none⟩ = some (.int .i64 Y) := fun x => by
    rw [hwx x _ hg2, hc j (by omega), ← hY]; simp [List.getD, show j < is.length by omega]
  show Calls _ _ _ _ fun e w' => e = .returned (.int .i64 (cmpI (is.getD i 0) (is.getD j 0))) ∧ Nx wr w'
  rw [hX, hY]
  have i1 : (i : Int) < (n : Int) := by omega
  have j1 : (j : Int) < (n : Int) := by omega
  have i0 : (0 : Int) ≤ (i : Int) := by omega
  have j0 : (0 : Int) ≤ (j : Int) := by omega
  have hwi : IntKind.i64.wrap (i : Int) = (i : Int) := by rw [IntKind.wrap_i64]; omega
  have hwj : IntKind.i64.wrap (j : Int) = (j : Int) := by rw [IntKind.wrap_i64]; omega
  clear hr hn hX hY hg hgs hgr hot hc hg2 hwx
  go_enter Try.func27, Try.ntmps27
  go_upto_region 1 with (fail)
  refine wp_region_hyb [(0, true), (1, true), (2, true), (3, true), (4, true), (5, true), (6, true), (7, true), (8, false), (9, true)] (by kernel_rfl) (by kernel_rfl) ?_
  iterate 8 (refine hyb_calm rfl (fun K hK => ?_); go_simp; refine hK _ ?_; clear hK K)
  clear ci cj hg'
  refine hyb_alone rfl (fun w2 hn2 K hK => ?_)
  go_simp
  refine (cmpi_any w2 X Y).mono ?_; rintro e w3 ⟨rfl, hw⟩; obtain rfl := hw.symm
  refine hK _ _ (Nx.refl _) ?_
  clear hK K
  refine hyb_calm rfl (fun K hK => ?_); go_simp; refine hK _ ?_; clear hK K
  refine hyb_nil (fun w4 hn4 => ?_)
  have HN4 := Lib.hid (hn2.trans hn4)
  clear hn2 hn4
  go_wp2_with fail
  go_ret
  exact ⟨rfl, HN4.out⟩
theorem ent_nums : Ent 27 := fun us w => by
  have h0 : Try.prog.funcs[27]? = some Try.f27 := by kernel_rfl
  have h1 : Try.f27.name ≠ "runtime.NumGoroutine" := by decide
  obtain ⟨c, hc⟩ : ∃ c, Try.f27.body = some c := ⟨_, rfl⟩
  simp [callFunc, h0, h1, hc]
/-- a struct's fields, in order -/
def StrR (is : List Int) (xs : List ValS) (o : List Nat) : Prop := Ord (fun i => is.getD i 0) is.length o ∧ (o.map fun k => is.getD k 0).Pairwise (· < ·)
set_option maxRecDepth 100000 in
set_option maxHeartbeats 12800000 in
theorem sf_any (w : World) (Ai : Option Addr) (n ci : Nat) (is : List Int) (his : is.length = n) (hri : Rd (Value.int .i64) w Ai is) (hci : n ≤ ci) (g B c : Nat) (xs : List ValS) (hn : xs.length = n) (hn9 : n ≤ 20) (hnc : n ≤ c) (hB : Blk w B g (rowL valA xs).toArray 29) (hok : ∀ x ∈ xs, OkS x) :
    Calls Try.prog 14 #[.slice Ai n ci, .slice (some ⟨g, 0, none⟩) n c] w fun e w' =>
      ((e = .returned (.tuple #[.slice none 0 0, .slice none 0 0, .int .i64 8]) ∧ ¬ is.Nodup) ∨
        ∃ (vi vv : Value) (o : List Nat), e = .returned (.tuple #[vi, vv, .int .i64 0]) ∧ OwnS fI 1 3 w' w.heap.size vi (o.map fun k => is.getD k 0) ∧ OwnS valA 5 29 w' w.heap.size vv (o.map fun k => xs.getD k zeroS) ∧ StrR is xs o) ∧ Nx w w' := by
  obtain ⟨g1, hg1⟩ : ∃ g, w.heap.size = g := ⟨_, rfl⟩
  obtain ⟨w1, hw1⟩ : ∃ x, w.alloc (.cells #[.slice Ai n ci] 27) = x := ⟨_, rfl⟩
  have hb1 : Blk w1 g1 g1 #[.slice Ai n ci] 27 := by rw [← hw1, ← hg1]; exact Blk.new w _ _
  have hn1 : Nx w w1 := by rw [← hw1]; exact nx0 _ _
  have a0 : w1.cell? ⟨g1, 0, none⟩ = some (.slice Ai n ci) := hb1.cell 0
  have HB1 := Lib.hid hb1
  have HBX := Lib.hid (hB.below hn1)
  have HN1 := Lib.hid hn1
  have HOK := Lib.hid hok
  have HXL := Lib.hid hn
  have HIL := Lib.hid his
  have HRI := Lib.hid (hri.below hn1)
  have HAS := Lib.hid (asc_any 27 w1 n g1 (fun i => is.getD i 0) hn9 (fun gr hgr => nums_any w1 g1 Ai n ci is his (by omega) a0 hb1.lt (hri.below hn1) gr hgr) ent_nums)
  have e1 : ((n : Int) == (n : Int)) = true := by simp
  have e2 : (n == n) = true := by simp
  have hmi : (n : Int) ≤ 20 := by omega
  have HNC : Hid (n ≤ c ∧ n ≤ ci) := ⟨hnc, hci⟩
  clear hb1 hn1 hB hok hn hnc his hri hci
  go_enter Try.func14, Try.ntmps14
  go_wp2_with fail
  clear hw1 hg1
  refine HAS.out.mono ?_; rintro e w2 ⟨go, o, rfl, ho, hbo, hn2⟩
  have HO := Lib.hid ho
  have HBO := Lib.hid hbo
  have HN2 := Lib.hid (HN1.out.trans hn2)
  have HB12 := Lib.hid (HB1.out.below hn2)
  have HBX2 := Lib.hid (HBX.out.below hn2)
  have HRI2 := Lib.hid (HRI.out.below hn2)
  clear ho hbo hn2 a0 HB1 HBX HN1 HAS HRI
  go_wp2_with fail
  go_loopw [21, 4, 5] (fun x21 x4 x5 wr => ∃ (i : Nat) (A4 A5 : Option Addr) (c4 c5 : Nat), x21 = .int .i64 (i : Int) ∧ x4 = .slice A4 i c4 ∧ x5 = .slice A5 i c5 ∧ i ≤ n ∧ Hid (OwnS fI 1 3 wr w2.heap.size (.slice A4 i c4) ((o.take i).map fun k => is.getD k 0)) ∧ Hid (OwnS valA 5 29 wr w2.heap.size (.slice A5 i c5) ((o.take i).map fun k => xs.getD k zeroS)) ∧ Hid (((o.take i).map fun k => is.getD k 0).Pairwise (· < ·)) ∧ Hid (Nx w2 wr)) (fun x21 _ _ _ => (n - intOf x21).toNat)
  case atStart => exact ⟨0, none, none, 0, 0, rfl, rfl, rfl, Nat.zero_le _, OwnS.nil_ _ _, OwnS.nil_ _ _, List.Pairwise.nil, Nx.refl _⟩
  case round =>
    obtain ⟨i, A4, A5, c4, c5, rfl, rfl, rfl, hi, HI4, HV5, HPW, HX⟩ := hrel
    by_cases hlt : i < n
    · have d1 : decide ((i : Int) < (n : Int)) = true := decide_eq_true (by omega)
      have d2 : (i : Int) < (n : Int) := by omega
      have d3 : (0 : Int) ≤ (i : Int) := by omega
      have d4 : decide (i < n) = true := decide_eq_true hlt
      have hio : i < o.length := by rw [HO.out.len]; exact hlt
      obtain ⟨t, ht⟩ : ∃ t, o[i] = t := ⟨_, rfl⟩
      have htn : t < n := ht ▸ HO.out.get hio
      have hco : wr.cell? ⟨go, i, none⟩ = some (.int .i64 (t : Int)) := by
        rw [(HBO.out.below HX.out).cell i]; simp [nw, hio, ht]
      have hti : t < is.length := by rw [HIL.out]; exact htn
      have htx : t < xs.length := by rw [HXL.out]; exact htn
      have ht1 : (t : Int) < (n : Int) := by omega
      have ht2 : (0 : Int) ≤ (t : Int) := by omega
      obtain ⟨X, hX⟩ : ∃ X, xs[t] = X := ⟨_, rfl⟩
      obtain ⟨I, hI⟩ : ∃ I, is[t] = I := ⟨_, rfl⟩
      have HXO : Hid (OkS X) := hX ▸ HOK.out _ (List.getElem_mem _)
      have HTK : Hid (o.take (i + 1) = o.take i ++ [t] ∧ is.getD t 0 = I ∧ xs.getD t zeroS = X ∧ o[i]? = some t) := ⟨by rw [List.take_succ_eq_append_getElem hio, ht], by rw [← hI]; simp [List.getD, hti], by rw [← hX]; simp [List.getD, htx], by rw [← ht]; simp [hio]⟩
      obtain ⟨gi, oi, rfl, hgi, hci⟩ := (HRI2.out.below HX.out) (by omega)
      have HCI : Hid (gi < wr.heap.size ∧ wr.cell? ⟨gi, oi + t, none⟩ = some (.int .i64 I)) := ⟨hgi, by rw [hci t hti, hI]⟩
      have HCG : Hid (g1 < wr.heap.size ∧ wr.cell? ⟨g1, 0, none⟩ = some (.slice (some ⟨gi, oi, none⟩) n ci)) := ⟨(HB12.out.below HX.out).lt, (HB12.out.below HX.out).cell 0⟩
      have HFX : Hid (∀ wz, Nx wr wz → ∀ q, q < 5 → wz.cell? ⟨g, t * 5 + q, none⟩ = (valA X)[q]?) := fun wz hz q hq => by rw [(HBX2.out.below (HX.out.trans hz)).rcell htx hq, hX]
      obtain ⟨⟨XA, Xu, Xc, hXl⟩, ⟨XD, Xe, Xf, hXd⟩⟩ := HXO.out.slv
      have HVX : Hid (valA X = #[.int .i64 (X.k : Int), .int .i64 X.n, .string ⟨X.s.toArray⟩, .slice XA Xu Xc, .slice XD Xe Xf]) := by unfold Hid valA; rw [hXl, hXd]
      obtain ⟨Xk, hXk⟩ : ∃ k, (X.k : Int) = k := ⟨_, rfl⟩
      obtain ⟨Xn, hXn⟩ : ∃ k, X.n = k := ⟨_, rfl⟩
      obtain ⟨Xs, hXs⟩ : ∃ s, ByteArray.mk X.s.toArray = s := ⟨_, rfl⟩
      rw [hXk, hXn, hXs] at HVX
      rw [HVX.out] at HFX
      have hcg := HCG.out.2
      have hct := HCI.out.2
      have HLT := Lib.hid hlt
      clear hXk hXn hXs hXl hXd hX hI hti htx hlt hgi hci
      by_cases hi0 : i = 0
      · have q0 : decide ((0 : Int) < (i : Int)) = false := decide_eq_false (by omega)
        have q1 : ¬ (0 : Int) < (i : Int) := by omega
        have q2 : decide (0 < i) = false := decide_eq_false (by omega)
        have HPN : Hid (((o.take (i + 1)).map fun k => is.getD k 0).Pairwise (· < ·)) := by
          unfold Hid
          rw [HTK.out.1, hi0]
          simp
        clear hi0 hio ht htn
        go_upto_region 7 with (fail)
        go_quiet (fail)
        have HXV : Hid (Nx wr (wr.drewN nq)) := Nx.drewN wr nq
        generalize wr.drewN nq = wy at *
        have zc := HXV.out.cell (p := ⟨g1, 0, none⟩) HCG.out.1
        rw [HCG.out.2] at zc
        have zt := HXV.out.cell (p := ⟨gi, oi + t, none⟩) HCI.out.1
        rw [HCI.out.2] at zt
        have HOI := Lib.hid (HI4.out.nx HXV.out)
        have HOV := Lib.hid (HV5.out.nx HXV.out)
        obtain ⟨g6, hg6⟩ : ∃ g, wy.heap.size = g := ⟨_, rfl⟩
        obtain ⟨w6, hw6⟩ : ∃ y, wy.alloc (.cells #[.int .i64 I] 3) = y := ⟨_, rfl⟩
        have hb6 : Blk w6 g6 g6 #[.int .i64 I] 3 := by rw [← hw6, ← hg6]; exact Blk.new wy _ _
        have hn6 : Nx wy w6 := by rw [← hw6]; exact nx0 _ _
        have HOI6 := Lib.hid (HOI.out.nx hn6)
        have HOV6 := Lib.hid (HOV.out.nx hn6)
        have HX6 := Lib.hid (HXV.out.trans hn6)
        have HY6 : Hid (∀ j (h : j < [I].length) p, p < 1 → w6.cell? ⟨g6, 0 + j * 1 + p, none⟩ = (fI [I][j])[p]?) := fun j hj p hp => by
          obtain rfl : j = 0 := by simpa using hj
          obtain rfl : p = 0 := by omega
          exact hb6.cell 0
        have HL6 : Hid (((((o.take i).map fun k => is.getD k 0)).length : Int) + ([I].length : Int) ≤ 100000) := by
          unfold Hid; simp only [List.length_map, List.length_take, List.length_cons, List.length_nil]; omega
        have HQ6 : Hid (w2.heap.size ≤ w6.heap.size) := (HX.out.trans HX6.out).size
        have HONI : Hid (∀ y ∈ [I], ∀ u ∈ (fI y).toList, u.oneCell' = true) := fun y hy u hu => by
          have : u = .int .i64 y := by simpa [fI] using hu
          rw [this]; rfl
        clear hb6 hn6
        go_upto_region 10 with (at_builtin; go_must (refine wpList_appO (f := fI) (k := 1) (z := .int .i64 0) _ infoI Try.underlying27 rfl (by decide) (by decide) (fun _ => rfl) rfl _ _ rfl w2.heap.size (.slice A4 i c4) ((o.take i).map fun k => is.getD k 0) [I] HONI.out rfl HOI6.out g6 0 1 1 rfl rfl HY6.out HL6.out HQ6.out ?_; intro v7 w7 hown7 hbel7 hkeep7))
        have HX7 : Hid (Nx w2 w7) := Below.trans (B := w2.heap.size) (HX.out.trans HX6.out) hbel7
        have HOV7 := Lib.hid (OwnS.apart (by decide) HOI6.out HOV6.out hkeep7)
        have hown7' : OwnS fI 1 3 w7 w2.heap.size v7 ((o.take (i + 1)).map fun k => is.getD k 0) := by
          rw [HTK.out.1, List.map_append, List.map_cons, List.map_nil, HTK.out.2.1]; exact hown7
        obtain ⟨A7, c7, hv7, -, -, -⟩ := OwnS.sl fI_size hown7'
        rw [List.length_map, List.length_take, show min (i + 1) o.length = i + 1 by have := HO.out.len; have := HLT.out; omega] at hv7
        subst hv7
        have HOI7 := Lib.hid hown7'
        clear hown7 hown7' hbel7 hkeep7 hw6 hg6 zc zt hcg hct hco
        have hbx := HBX2.out.below HX7.out
        have HFZ : ∀ q, q < 5 → w7.cell? ⟨g, t * 5 + q, none⟩ = (valA X)[q]? := fun q hq => by
          rw [hbx.rcell (i := t) (by rw [HXL.out]; omega) hq]
          have := HTK.out.2.2.1
          rw [← this]
          simp [List.getD, show t < xs.length by rw [HXL.out]; omega]
        rw [HVX.out] at HFZ
        have x0 := HFZ 0 (by decide)
        have x1 := HFZ 1 (by decide)
        have x2 := HFZ 2 (by decide)
        have x3 := HFZ 3 (by decide)
        have x4 := HFZ 4 (by decide)
        simp only [Nat.add_zero, List.getElem?_toArray, List.getElem?_cons_zero, List.getElem?_cons_succ] at x0 x1 x2 x3 x4
        clear HFZ
        clear hbx
        obtain ⟨g8, hg8⟩ : ∃ g, w7.heap.size = g := ⟨_, rfl⟩
        obtain ⟨w8, hw8⟩ : ∃ y, w7.alloc (.cells #[.int .i64 Xk, .int .i64 Xn, .string Xs, .slice XA Xu Xc, .slice XD Xe Xf] 29) = y := ⟨_, rfl⟩
        have hb8 : Blk w8 g8 g8 (rowL valA [X]).toArray 29 := by
          have e : (rowL valA [X]).toArray = #[.int .i64 Xk, .int .i64 Xn, .string Xs, .slice XA Xu Xc, .slice XD Xe Xf] := by simp [rowL, HVX.out]
          rw [e, ← hw8, ← hg8]; exact Blk.new w7 _ _
        have hn8 : Nx w7 w8 := by rw [← hw8]; exact nx0 _ _
        have HOI8 := Lib.hid (HOI7.out.nx hn8)
        have HOV8 := Lib.hid (HOV7.out.nx hn8)
        have HX8 := Lib.hid (HX7.out.trans hn8)
        have HY8 : Hid (∀ j (h : j < [X].length) p, p < 5 → w8.cell? ⟨g8, 0 + j * 5 + p, none⟩ = (valA [X][j])[p]?) := by
          obtain ⟨g', off', e, h1, h2⟩ := RdO.blk' hb8 (by simp)
          simp only [Option.some.injEq, Addr.mk.injEq] at e
          obtain ⟨rfl, rfl, -⟩ := e
          exact h2
        have HL8 : Hid ((((o.take i).map fun k => xs.getD k zeroS).length : Int) + ([X].length : Int) ≤ 100000) := by
          unfold Hid; simp only [List.length_map, List.length_take, List.length_cons, List.length_nil]; omega
        have HQ8 : Hid (w2.heap.size ≤ w8.heap.size) := HX8.out.size
        have HONX : Hid (∀ y ∈ [X], ∀ u ∈ (valA y).toList, u.oneCell' = true) := fun y hy => by rw [List.mem_singleton.1 hy]; exact HXO.out.one
        clear hb8 hn8
        go_wp2_with (at_builtin; go_must (refine wpList_appO (f := valA) (k := 5) (z := valG) _ infoG Try.underlying25 rfl (by decide) (by decide) (fun _ => rfl) rfl _ _ rfl w2.heap.size (.slice A5 i c5) ((o.take i).map fun k => xs.getD k zeroS) [X] HONX.out rfl HOV8.out g8 0 1 1 rfl rfl HY8.out HL8.out HQ8.out ?_; intro v9 w9 hown9 hbel9 hkeep9))
        have HX9 : Hid (Nx w2 w9) := Below.trans (B := w2.heap.size) HX8.out hbel9
        have HOI9 := Lib.hid (OwnS.apart (by decide) HOV8.out HOI8.out hkeep9)
        have hown9' : OwnS valA 5 29 w9 w2.heap.size v9 ((o.take (i + 1)).map fun k => xs.getD k zeroS) := by
          rw [HTK.out.1, List.map_append, List.map_cons, List.map_nil, HTK.out.2.2.1]; exact hown9
        obtain ⟨A9, c9, hv9, -, -, -⟩ := OwnS.sl valA_size hown9'
        rw [List.length_map, List.length_take, show min (i + 1) o.length = i + 1 by have := HO.out.len; have := HLT.out; omega] at hv9
        subst hv9
        have HOV9 := Lib.hid hown9'
        clear hown9 hown9' hbel9 hkeep9 hw8 hg8 x0 x1 x2 x3 x4
        go_wp2_with fail
        go_roundw
        case rel => exact ⟨i + 1, A7, A9, c7, c9, by go_num, rfl, rfl, HLT.out, HOI9.out, HOV9.out, HPN.out, HX9.out⟩
        case measure => have := HLT.out; simp [intOf]; omega
      · obtain ⟨ip, hip⟩ : ∃ ip : Nat, ip + 1 = i := ⟨i - 1, by omega⟩
        have hipo : ip < o.length := by omega
        have hipn : o[ip] < n := HO.out.get hipo
        have hipi : o[ip] < is.length := by rw [HIL.out]; exact hipn
        obtain ⟨P, hP⟩ : ∃ P, is.getD o[ip] 0 = P := ⟨_, rfl⟩
        have hlx := HO.out.rise (i := ip) (by omega)
        have HPI : Hid (P ≤ I ∧ ∀ a ∈ (o.take i).map (fun k => is.getD k 0), a ≤ P) := by
          refine ⟨?_, fun a ha => ?_⟩
          · have e : o[ip + 1]'(by omega) = t := by rw [← ht]; congr 1
            rw [e] at hlx
            unfold lx at hlx
            simp only at hlx
            rw [hP, HTK.out.2.1] at hlx
            omega
          · obtain ⟨k, hk, rfl⟩ := List.mem_map.1 ha
            obtain ⟨j, hj, rfl⟩ := List.getElem_of_mem hk
            rw [List.getElem_take]
            have hji : j < i := by rw [List.length_take] at hj; omega
            rcases Nat.lt_or_ge j ip with h | h
            · have := List.pairwise_iff_getElem.1 HO.out.2 j ip (by omega) hipo h
              unfold lx at this
              simp only at this
              rw [hP] at this
              omega
            · obtain rfl : j = ip := by omega
              rw [hP]; exact Int.le_refl _
        have HDUP : Hid (P = I → ¬ is.Nodup) := fun e hd => by
          have hne : o[ip] ≠ t := by
            rw [← ht]; exact HO.out.ne hipo hio (by omega)
          have hti : t < is.length := by rw [HIL.out]; exact htn
          have e1 : is[o[ip]] = P := by rw [← hP]; simp [List.getD, hipi]
          have e2 : is[t] = I := by rw [← HTK.out.2.1]; simp [List.getD, hti]
          have hp := List.pairwise_iff_getElem.1 hd
          rcases Nat.lt_or_gt_of_ne hne with h | h
          · exact hp _ _ hipi hti h (by rw [e1, e2, e])
          · exact hp _ _ hti hipi h (by rw [e1, e2, e])
        obtain ⟨gq, rfl, HCP⟩ : ∃ gq, A4 = some ⟨gq, 0, none⟩ ∧ Hid (gq < wr.heap.size ∧ wr.cell? ⟨gq, ip, none⟩ = some (.int .i64 P)) := by
          obtain ⟨A', c', e, h1, h2, h3⟩ := OwnS.sl fI_size HI4.out
          simp only [Value.slice.injEq] at e
          obtain ⟨rfl, -, rfl⟩ := e
          have hlen : ((o.take i).map fun k => is.getD k 0).length = i := by rw [List.length_map, List.length_take]; omega
          obtain ⟨gq, rfl, hg, hc⟩ := h3 (by omega)
          refine ⟨gq, rfl, hg, ?_⟩
          have := hc ip (by omega) 0 (by decide)
          rw [Nat.mul_one, Nat.add_zero] at this
          rw [this, List.getElem_map, List.getElem_take, hP]; rfl
        have hcp := HCP.out.2
        have q0 : decide ((0 : Int) < (i : Int)) = true := decide_eq_true (by omega)
        have q1 : (0 : Int) < (i : Int) := by omega
        have q2 : decide (0 < i) = true := decide_eq_true (by omega)
        have q3 : (i : Int) - 1 = (ip : Int) := by omega
        have q4 : (ip : Int) < (i : Int) := by omega
        have q5 : (0 : Int) ≤ (ip : Int) := by omega
        have q6 : IntKind.i64.wrap (ip : Int) = (ip : Int) := by rw [IntKind.wrap_i64]; omega
        have q7 : 0 < i := by omega
        clear hip hipo hipn hipi hP hlx hi0 hio ht htn
        by_cases hPI : P = I
        · have r1 : (P == I) = true := by rw [hPI]; simp
          have HND := Lib.hid (HDUP.out hPI)
          clear hPI
          go_upto_region 7 with (fail)
          go_quiet (fail)
          go_wp2_with fail
          go_ret3
          exact ⟨.inl ⟨rfl, HND.out⟩, (HN2.out.trans HX.out).dr _⟩
        · have r1 : (P == I) = false := by rw [beq_eq_false_iff_ne]; exact hPI
          have HPN : Hid (((o.take (i + 1)).map fun k => is.getD k 0).Pairwise (· < ·)) := by
            unfold Hid
            rw [HTK.out.1, List.map_append, List.map_cons, List.map_nil, HTK.out.2.1]
            refine List.pairwise_append.2 ⟨HPW.out, List.pairwise_singleton _ _, fun a ha b hb => ?_⟩
            rw [List.mem_singleton.1 hb]
            have := HPI.out.2 a ha
            have := HPI.out.1
            omega
          clear hPI
          go_upto_region 7 with (fail)
          go_quiet (fail)
          have HXV : Hid (Nx wr (wr.drewN nq)) := Nx.drewN wr nq
          clear r1 q0 q1 q2 q3 q4 q5 q6 q7 hcp
          generalize wr.drewN nq = wy at *
          obtain ⟨A4, hA⟩ : ∃ A : Option Addr, some ⟨gq, 0, none⟩ = A := ⟨_, rfl⟩
          rw [hA] at HI4
          simp only [hA]
          clear hA
          have zc := HXV.out.cell (p := ⟨g1, 0, none⟩) HCG.out.1
          rw [HCG.out.2] at zc
          have zt := HXV.out.cell (p := ⟨gi, oi + t, none⟩) HCI.out.1
          rw [HCI.out.2] at zt
          have HOI := Lib.hid (HI4.out.nx HXV.out)
          have HOV := Lib.hid (HV5.out.nx HXV.out)
          obtain ⟨g6, hg6⟩ : ∃ g, wy.heap.size = g := ⟨_, rfl⟩
          obtain ⟨w6, hw6⟩ : ∃ y, wy.alloc (.cells #[.int .i64 I] 3) = y := ⟨_, rfl⟩
          have hb6 : Blk w6 g6 g6 #[.int .i64 I] 3 := by rw [← hw6, ← hg6]; exact Blk.new wy _ _
          have hn6 : Nx wy w6 := by rw [← hw6]; exact nx0 _ _
          have HOI6 := Lib.hid (HOI.out.nx hn6)
          have HOV6 := Lib.hid (HOV.out.nx hn6)
          have HX6 := Lib.hid (HXV.out.trans hn6)
          have HY6 : Hid (∀ j (h : j < [I].length) p, p < 1 → w6.cell? ⟨g6, 0 + j * 1 + p, none⟩ = (fI [I][j])[p]?) := fun j hj p hp => by
            obtain rfl : j = 0 := by simpa using hj
            obtain rfl : p = 0 := by omega
            exact hb6.cell 0
          have HL6 : Hid (((((o.take i).map fun k => is.getD k 0)).length : Int) + ([I].length : Int) ≤ 100000) := by
            unfold Hid; simp only [List.length_map, List.length_take, List.length_cons, List.length_nil]; omega
          have HQ6 : Hid (w2.heap.size ≤ w6.heap.size) := (HX.out.trans HX6.out).size
          have HONI : Hid (∀ y ∈ [I], ∀ u ∈ (fI y).toList, u.oneCell' = true) := fun y hy u hu => by
            have : u = .int .i64 y := by simpa [fI] using hu
            rw [this]; rfl
          clear hb6 hn6
          go_upto_region 10 with (at_builtin; go_must (refine wpList_appO (f := fI) (k := 1) (z := .int .i64 0) _ infoI Try.underlying27 rfl (by decide) (by decide) (fun _ => rfl) rfl _ _ rfl w2.heap.size (.slice A4 i c4) ((o.take i).map fun k => is.getD k 0) [I] HONI.out rfl HOI6.out g6 0 1 1 rfl rfl HY6.out HL6.out HQ6.out ?_; intro v7 w7 hown7 hbel7 hkeep7))
          have HX7 : Hid (Nx w2 w7) := Below.trans (B := w2.heap.size) (HX.out.trans HX6.out) hbel7
          have HOV7 := Lib.hid (OwnS.apart (by decide) HOI6.out HOV6.out hkeep7)
          have hown7' : OwnS fI 1 3 w7 w2.heap.size v7 ((o.take (i + 1)).map fun k => is.getD k 0) := by
            rw [HTK.out.1, List.map_append, List.map_cons, List.map_nil, HTK.out.2.1]; exact hown7
          obtain ⟨A7, c7, hv7, -, -, -⟩ := OwnS.sl fI_size hown7'
          rw [List.length_map, List.length_take, show min (i + 1) o.length = i + 1 by have := HO.out.len; have := HLT.out; omega] at hv7
          subst hv7
          have HOI7 := Lib.hid hown7'
          clear hown7 hown7' hbel7 hkeep7 hw6 hg6 zc zt hcg hct hco
          have hbx := HBX2.out.below HX7.out
          have HFZ : ∀ q, q < 5 → w7.cell? ⟨g, t * 5 + q, none⟩ = (valA X)[q]? := fun q hq => by
            rw [hbx.rcell (i := t) (by rw [HXL.out]; omega) hq]
            have := HTK.out.2.2.1
            rw [← this]
            simp [List.getD, show t < xs.length by rw [HXL.out]; omega]
          rw [HVX.out] at HFZ
          have x0 := HFZ 0 (by decide)
          have x1 := HFZ 1 (by decide)
          have x2 := HFZ 2 (by decide)
          have x3 := HFZ 3 (by decide)
          have x4 := HFZ 4 (by decide)
          simp only [Nat.add_zero, List.getElem?_toArray, List.getElem?_cons_zero, List.getElem?_cons_succ] at x0 x1 x2 x3 x4
          clear HFZ
          clear hbx
          obtain ⟨g8, hg8⟩ : ∃ g, w7.heap.size = g := ⟨_, rfl⟩
          obtain ⟨w8, hw8⟩ : ∃ y, w7.alloc (.cells #[.int .i64 Xk, .int .i64 Xn, .string Xs, .slice XA Xu Xc, .slice XD Xe Xf] 29) = y := ⟨_, rfl⟩
          have hb8 : Blk w8 g8 g8 (rowL valA [X]).toArray 29 := by
            have e : (rowL valA [X]).toArray = #[.int .i64 Xk, .int .i64 Xn, .string Xs, .slice XA Xu Xc, .slice XD Xe Xf] := by simp [rowL, HVX.out]
            rw [e, ← hw8, ← hg8]; exact Blk.new w7 _ _
          have hn8 : Nx w7 w8 := by rw [← hw8]; exact nx0 _ _
          have HOI8 := Lib.hid (HOI7.out.nx hn8)
          have HOV8 := Lib.hid (HOV7.out.nx hn8)
          have HX8 := Lib.hid (HX7.out.trans hn8)
          have HY8 : Hid (∀ j (h : j < [X].length) p, p < 5 → w8.cell? ⟨g8, 0 + j * 5 + p, none⟩ = (valA [X][j])[p]?) := by
            obtain ⟨g', off', e, h1, h2⟩ := RdO.blk' hb8 (by simp)
            simp only [Option.some.injEq, Addr.mk.injEq] at e
            obtain ⟨rfl, rfl, -⟩ := e
            exact h2
          have HL8 : Hid ((((o.take i).map fun k => xs.getD k zeroS).length : Int) + ([X].length : Int) ≤ 100000) := by
            unfold Hid; simp only [List.length_map, List.length_take, List.length_cons, List.length_nil]; omega
          have HQ8 : Hid (w2.heap.size ≤ w8.heap.size) := HX8.out.size
          have HONX : Hid (∀ y ∈ [X], ∀ u ∈ (valA y).toList, u.oneCell' = true) := fun y hy => by rw [List.mem_singleton.1 hy]; exact HXO.out.one
          clear hb8 hn8
          go_wp2_with (at_builtin; go_must (refine wpList_appO (f := valA) (k := 5) (z := valG) _ infoG Try.underlying25 rfl (by decide) (by decide) (fun _ => rfl) rfl _ _ rfl w2.heap.size (.slice A5 i c5) ((o.take i).map fun k => xs.getD k zeroS) [X] HONX.out rfl HOV8.out g8 0 1 1 rfl rfl HY8.out HL8.out HQ8.out ?_; intro v9 w9 hown9 hbel9 hkeep9))
          have HX9 : Hid (Nx w2 w9) := Below.trans (B := w2.heap.size) HX8.out hbel9
          have HOI9 := Lib.hid (OwnS.apart (by decide) HOV8.out HOI8.out hkeep9)
          have hown9' : OwnS valA 5 29 w9 w2.heap.size v9 ((o.take (i + 1)).map fun k => xs.getD k zeroS) := by
            rw [HTK.out.1, List.map_append, List.map_cons, List.map_nil, HTK.out.2.2.1]; exact hown9
          obtain ⟨A9, c9, hv9, -, -, -⟩ := OwnS.sl valA_size hown9'
          rw [List.length_map, List.length_take, show min (i + 1) o.length = i + 1 by have := HO.out.len; have := HLT.out; omega] at hv9
          subst hv9
          have HOV9 := Lib.hid hown9'
          clear hown9 hown9' hbel9 hkeep9 hw8 hg8 x0 x1 x2 x3 x4
          go_wp2_with fail
          go_roundw
          case rel => exact ⟨i + 1, A7, A9, c7, c9, by go_num, rfl, rfl, HLT.out, HOI9.out, HOV9.out, HPN.out, HX9.out⟩
          case measure => have := HLT.out; simp [intOf]; omega
    · have d1 : decide ((i : Int) < (n : Int)) = false := decide_eq_false (by omega)
      have d2 : ¬ (i : Int) < (n : Int) := by omega
      have d4 : decide (i < n) = false := decide_eq_false hlt
      obtain rfl : i = n := by omega
      clear hlt
      have hi4 := HI4.out
      have hv5 := HV5.out
      have hpw := HPW.out
      rw [List.take_of_length_le (by rw [HO.out.len]; exact Nat.le_refl _)] at hi4 hv5 hpw
      have HI4' := Lib.hid (hi4.less HN2.out.size)
      have HV5' := Lib.hid (hv5.less HN2.out.size)
      have HSR : Hid (StrR is xs o) := ⟨by rw [HIL.out]; exact HO.out, hpw⟩
      clear hi4 hv5 hpw
      go_wp2_with fail
      go_ret3
      exact ⟨.inr ⟨_, _, rfl, o, HI4'.out, HV5'.out, HSR.out⟩, HN2.out.trans HX.out⟩
end Go.Proofs.Ytjeadmndnbggmaa
