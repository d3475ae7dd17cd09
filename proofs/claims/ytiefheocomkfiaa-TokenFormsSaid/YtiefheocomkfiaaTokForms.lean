/- TokenForms: the law returns true and leaves memory as it was. -/
import Derived.Test.YtiefheocomkfiaaTokK
set_option linter.unusedVariables false
set_option linter.unusedSimpArgs false
namespace Go.Proofs.Ytiefheocomkfiaa
open Go.RowKit

def gT : Array Value := #[.string ⟨#[]⟩, .string ⟨#[97, 46, 98]⟩, .string ⟨#[97, 46]⟩, .string ⟨#[97, 46, 46, 98]⟩, .string ⟨#[48, 120]⟩, .string ⟨#[48, 120, 49, 70]⟩, .string ⟨#[48, 120, 55, 102, 102, 102, 102, 102, 102, 102, 102, 102, 102, 102, 102, 102, 102, 102]⟩, .string ⟨#[48, 120, 56, 48, 48, 48, 48, 48, 48, 48, 48, 48, 48, 48, 48, 48, 48, 48]⟩, .string ⟨#[48, 120, 48, 48, 48, 48, 48, 48, 48, 48, 48, 48, 48, 48, 48, 48, 48, 48, 49]⟩, .string ⟨#[57, 50, 50, 51, 51, 55, 50, 48, 51, 54, 56, 53, 52, 55, 55, 53, 56, 48, 55]⟩, .string ⟨#[57, 50, 50, 51, 51, 55, 50, 48, 51, 54, 56, 53, 52, 55, 55, 53, 56, 48, 56]⟩, .string ⟨#[45, 57, 50, 50, 51, 51, 55, 50, 48, 51, 54, 56, 53, 52, 55, 55, 53, 56, 48, 56]⟩, .string ⟨#[45, 57, 50, 50, 51, 51, 55, 50, 48, 51, 54, 56, 53, 52, 55, 55, 53, 56, 48, 57]⟩, .string ⟨#[43, 53]⟩, .string ⟨#[45]⟩, .string ⟨#[49, 97]⟩, .string ⟨#[49, 46, 53]⟩, .string ⟨#[49, 46]⟩, .string ⟨#[49, 46, 53, 46, 50]⟩, .string ⟨#[46, 53]⟩, .string ⟨#[46]⟩, .string ⟨#[49, 101, 53]⟩, .string ⟨#[49, 101]⟩, .string ⟨#[49, 101, 52, 48, 48]⟩, .string ⟨#[39, 97, 34, 98, 39]⟩, .string ⟨#[34, 97]⟩, .string ⟨#[39, 97, 10, 98, 39]⟩, .string ⟨#[47, 42, 32, 97]⟩, .string ⟨#[47, 42, 97, 42, 47, 32, 98]⟩, .string ⟨#[35, 32, 97]⟩, .string ⟨#[47, 47]⟩, .string ⟨#[47]⟩, .string ⟨#[97, 47, 98]⟩, .string ⟨#[36]⟩, .string ⟨#[49, 101, 53, 120]⟩, .string ⟨#[45, 45, 49]⟩, .string ⟨#[123, 125, 40, 41, 91, 93, 60, 62, 44, 59, 58, 61, 42]⟩]
def gE : Array Value := #[.int .i64 0, .int .i64 0, .int .i64 2, .int .i64 2, .int .i64 2, .int .i64 0, .int .i64 0, .int .i64 5, .int .i64 4, .int .i64 0, .int .i64 5, .int .i64 0, .int .i64 5, .int .i64 0, .int .i64 2, .int .i64 2, .int .i64 0, .int .i64 2, .int .i64 2, .int .i64 0, .int .i64 2, .int .i64 0, .int .i64 2, .int .i64 5, .int .i64 0, .int .i64 2, .int .i64 2, .int .i64 2, .int .i64 0, .int .i64 0, .int .i64 0, .int .i64 2, .int .i64 2, .int .i64 2, .int .i64 2, .int .i64 2, .int .i64 0]
def gP : Array Value := #[.int .i64 0, .int .i64 0, .int .i64 0, .int .i64 0, .int .i64 1, .int .i64 0, .int .i64 0, .int .i64 0, .int .i64 0, .int .i64 0, .int .i64 0, .int .i64 0, .int .i64 0, .int .i64 0, .int .i64 0, .int .i64 1, .int .i64 0, .int .i64 1, .int .i64 3, .int .i64 0, .int .i64 0, .int .i64 0, .int .i64 1, .int .i64 0, .int .i64 0, .int .i64 0, .int .i64 0, .int .i64 0, .int .i64 0, .int .i64 0, .int .i64 0, .int .i64 0, .int .i64 1, .int .i64 0, .int .i64 3, .int .i64 0, .int .i64 0]
theorem tforms (i : Nat) (hi : i < 37) : ∃ (s : ByteArray) (l : List UInt8) (e p : Nat), gT[i]? = some (.string s) ∧ Tx s l ∧ (lexS l).2 = (e, p) ∧ gE[i]? = some (.int .i64 e) ∧ gP[i]? = some (.int .i64 p) ∧ (l.length : Int) ≤ 140737488355328 := by
  rcases (show i = 0 ∨ i = 1 ∨ i = 2 ∨ i = 3 ∨ i = 4 ∨ i = 5 ∨ i = 6 ∨ i = 7 ∨ i = 8 ∨ i = 9 ∨ i = 10 ∨ i = 11 ∨ i = 12 ∨ i = 13 ∨ i = 14 ∨ i = 15 ∨ i = 16 ∨ i = 17 ∨ i = 18 ∨ i = 19 ∨ i = 20 ∨ i = 21 ∨ i = 22 ∨ i = 23 ∨ i = 24 ∨ i = 25 ∨ i = 26 ∨ i = 27 ∨ i = 28 ∨ i = 29 ∨ i = 30 ∨ i = 31 ∨ i = 32 ∨ i = 33 ∨ i = 34 ∨ i = 35 ∨ i = 36 by omega) with rfl | rfl | rfl | rfl | rfl | rfl | rfl | rfl | rfl | rfl | rfl | rfl | rfl | rfl | rfl | rfl | rfl | rfl | rfl | rfl | rfl | rfl | rfl | rfl | rfl | rfl | rfl | rfl | rfl | rfl | rfl | rfl | rfl | rfl | rfl | rfl | rfl
  · exact ⟨_, [], 0, 0, rfl, rfl, by decide +kernel, rfl, rfl, by decide⟩
  · exact ⟨_, [97, 46, 98], 0, 0, rfl, rfl, by decide +kernel, rfl, rfl, by decide⟩
  · exact ⟨_, [97, 46], 2, 0, rfl, rfl, by decide +kernel, rfl, rfl, by decide⟩
  · exact ⟨_, [97, 46, 46, 98], 2, 0, rfl, rfl, by decide +kernel, rfl, rfl, by decide⟩
  · exact ⟨_, [48, 120], 2, 1, rfl, rfl, by decide +kernel, rfl, rfl, by decide⟩
  · exact ⟨_, [48, 120, 49, 70], 0, 0, rfl, rfl, by decide +kernel, rfl, rfl, by decide⟩
  · exact ⟨_, [48, 120, 55, 102, 102, 102, 102, 102, 102, 102, 102, 102, 102, 102, 102, 102, 102, 102], 0, 0, rfl, rfl, by decide +kernel, rfl, rfl, by decide⟩
  · exact ⟨_, [48, 120, 56, 48, 48, 48, 48, 48, 48, 48, 48, 48, 48, 48, 48, 48, 48, 48], 5, 0, rfl, rfl, by decide +kernel, rfl, rfl, by decide⟩
  · exact ⟨_, [48, 120, 48, 48, 48, 48, 48, 48, 48, 48, 48, 48, 48, 48, 48, 48, 48, 48, 49], 4, 0, rfl, rfl, by decide +kernel, rfl, rfl, by decide⟩
  · exact ⟨_, [57, 50, 50, 51, 51, 55, 50, 48, 51, 54, 56, 53, 52, 55, 55, 53, 56, 48, 55], 0, 0, rfl, rfl, by decide +kernel, rfl, rfl, by decide⟩
  · exact ⟨_, [57, 50, 50, 51, 51, 55, 50, 48, 51, 54, 56, 53, 52, 55, 55, 53, 56, 48, 56], 5, 0, rfl, rfl, by decide +kernel, rfl, rfl, by decide⟩
  · exact ⟨_, [45, 57, 50, 50, 51, 51, 55, 50, 48, 51, 54, 56, 53, 52, 55, 55, 53, 56, 48, 56], 0, 0, rfl, rfl, by decide +kernel, rfl, rfl, by decide⟩
  · exact ⟨_, [45, 57, 50, 50, 51, 51, 55, 50, 48, 51, 54, 56, 53, 52, 55, 55, 53, 56, 48, 57], 5, 0, rfl, rfl, by decide +kernel, rfl, rfl, by decide⟩
  · exact ⟨_, [43, 53], 0, 0, rfl, rfl, by decide +kernel, rfl, rfl, by decide⟩
  · exact ⟨_, [45], 2, 0, rfl, rfl, by decide +kernel, rfl, rfl, by decide⟩
  · exact ⟨_, [49, 97], 2, 1, rfl, rfl, by decide +kernel, rfl, rfl, by decide⟩
  · exact ⟨_, [49, 46, 53], 0, 0, rfl, rfl, by decide +kernel, rfl, rfl, by decide⟩
  · exact ⟨_, [49, 46], 2, 1, rfl, rfl, by decide +kernel, rfl, rfl, by decide⟩
  · exact ⟨_, [49, 46, 53, 46, 50], 2, 3, rfl, rfl, by decide +kernel, rfl, rfl, by decide⟩
  · exact ⟨_, [46, 53], 0, 0, rfl, rfl, by decide +kernel, rfl, rfl, by decide⟩
  · exact ⟨_, [46], 2, 0, rfl, rfl, by decide +kernel, rfl, rfl, by decide⟩
  · exact ⟨_, [49, 101, 53], 0, 0, rfl, rfl, by decide +kernel, rfl, rfl, by decide⟩
  · exact ⟨_, [49, 101], 2, 1, rfl, rfl, by decide +kernel, rfl, rfl, by decide⟩
  · exact ⟨_, [49, 101, 52, 48, 48], 5, 0, rfl, rfl, by decide +kernel, rfl, rfl, by decide⟩
  · exact ⟨_, [39, 97, 34, 98, 39], 0, 0, rfl, rfl, by decide +kernel, rfl, rfl, by decide⟩
  · exact ⟨_, [34, 97], 2, 0, rfl, rfl, by decide +kernel, rfl, rfl, by decide⟩
  · exact ⟨_, [39, 97, 10, 98, 39], 2, 0, rfl, rfl, by decide +kernel, rfl, rfl, by decide⟩
  · exact ⟨_, [47, 42, 32, 97], 2, 0, rfl, rfl, by decide +kernel, rfl, rfl, by decide⟩
  · exact ⟨_, [47, 42, 97, 42, 47, 32, 98], 0, 0, rfl, rfl, by decide +kernel, rfl, rfl, by decide⟩
  · exact ⟨_, [35, 32, 97], 0, 0, rfl, rfl, by decide +kernel, rfl, rfl, by decide⟩
  · exact ⟨_, [47, 47], 0, 0, rfl, rfl, by decide +kernel, rfl, rfl, by decide⟩
  · exact ⟨_, [47], 2, 0, rfl, rfl, by decide +kernel, rfl, rfl, by decide⟩
  · exact ⟨_, [97, 47, 98], 2, 1, rfl, rfl, by decide +kernel, rfl, rfl, by decide⟩
  · exact ⟨_, [36], 2, 0, rfl, rfl, by decide +kernel, rfl, rfl, by decide⟩
  · exact ⟨_, [49, 101, 53, 120], 2, 3, rfl, rfl, by decide +kernel, rfl, rfl, by decide⟩
  · exact ⟨_, [45, 45, 49], 2, 0, rfl, rfl, by decide +kernel, rfl, rfl, by decide⟩
  · exact ⟨_, [123, 125, 40, 41, 91, 93, 60, 62, 44, 59, 58, 61, 42], 0, 0, rfl, rfl, by decide +kernel, rfl, rfl, by decide⟩
theorem form_last : lexS [48, 120, 49, 70, 32, 45, 55, 32, 46, 53, 32, 39, 97, 34, 98, 39, 32, 120, 95, 49] = ([⟨2, [], 31, 0, 0⟩, ⟨2, [], -7, 0, 5⟩, ⟨3, [], 0, 4602678819172646912, 8⟩, ⟨4, [97, 34, 98], 0, 0, 11⟩, ⟨1, [120, 95, 49], 0, 0, 17⟩, ⟨6, [], 0, 0, 20⟩], 0, 0) := by
  have h : (lexS [48, 120, 49, 70, 32, 45, 55, 32, 46, 53, 32, 39, 97, 34, 98, 39, 32, 120, 95, 49]).2 = (0, 0) ∧ (lexS [48, 120, 49, 70, 32, 45, 55, 32, 46, 53, 32, 39, 97, 34, 98, 39, 32, 120, 95, 49]).1.map (fun t => (t.k, t.t, t.n, t.d, t.p)) = [(2, [], 31, 0, 0), (2, [], -7, 0, 5), (3, [], 0, 4602678819172646912, 8), (4, [97, 34, 98], 0, 0, 11), (1, [120, 95, 49], 0, 0, 17), (6, [], 0, 0, 20)] := by decide +kernel
  obtain ⟨h1, h2⟩ := h
  generalize lexS [48, 120, 49, 70, 32, 45, 55, 32, 46, 53, 32, 39, 97, 34, 98, 39, 32, 120, 95, 49] = R at *
  obtain ⟨ts, r⟩ := R
  dsimp only at h1 h2
  subst h1
  match ts, h2 with
  | [⟨_, _, _, _, _⟩, ⟨_, _, _, _, _⟩, ⟨_, _, _, _, _⟩, ⟨_, _, _, _, _⟩, ⟨_, _, _, _, _⟩, ⟨_, _, _, _, _⟩], h2 =>
    simp at h2
    simp [h2]

/-- make of bytes -/
theorem wpList_mkb (w : World) {ops : Array Oper} {rest : List Oper} {o : Oper} {a : Act} {Q : Exit → Act → World → Prop} (hgd : o.guard = none) (l c : Operand) (hop : o.op = Op.makeSlice 34 l c)
    (kl kc : IntKind) (N : Int) (hl : a.eval l = .int kl N) (hc : a.eval c = .int kc N) (h0 : 0 ≤ N) (hm : N ≤ 100000)
    (h : ∀ A w' (zs : List UInt8), Rd bv w' A zs → Hid (zs = List.replicate N.toNat 0) → Nx w w' → wpList Try.prog ops Q rest (a.put o.dst (.slice A zs.length zs.length)) w') : wpList Try.prog ops Q (o :: rest) a w := by
  obtain ⟨i, z, hi, hz, h1, h2, h3⟩ := bT.inf
  obtain rfl : z = bv 0 := by have := bZ i hi; rw [hz] at this; injection this
  refine wpList_plain hgd fun K hK => ?_
  have hrun := run_make (P := Try.prog) w 34 5 i (bv 0) bT.ht hi hz kl kc N N h0 (Int.le_refl _) (by rw [h2]; omega) (by omega)
  rw [h1, Nat.mul_one] at hrun
  have hmc : (madeCells (bv 0).cells N.toNat).toList = List.replicate N.toNat (bv 0) := by
    rw [show (bv 0).cells = #[bv 0] from rfl]
    apply List.ext_getElem
    · simp [madeCells]
    · intro j h1 h2
      simp [madeCells, Nat.mod_one]
  have hma : madeCells (bv 0).cells N.toNat = ((List.replicate N.toNat (0 : UInt8)).map bv).toArray := by
    apply Array.toList_inj.1
    rw [hmc]; simp
  have := hK _ _ (h (some ⟨w.heap.size, 0, none⟩) (w.alloc (.cells (madeCells (bv 0).cells N.toNat) 5)) (List.replicate N.toNat 0) (by rw [hma]; exact Rd.lits _ rfl) rfl (nx0 _ _))
  unfold Oper.wp execOp
  simp only [hop, Sem.run_bind, Sem.run_pure, Result.andThen_ok, hl, hc, hrun]
  simp only [List.length_replicate] at this
  exact this

set_option maxRecDepth 100000 in
set_option maxHeartbeats 3200000 in
theorem TokenForms_walk (w : World) (hm : MaxC w) :
    Calls Try.prog 4 #[] w fun e w' => e = .returned (.bool true) ∧ Below w.heap.size w w' := by
  have HF := Lib.hid tforms
  have HM := Lib.hid hm
  clear hm
  go_enter Try.func4, Try.ntmps4
  go_wp2_with fail
  refine (begun_any _ HM.out).mono ?_; rintro e w0 ⟨rfl, hb⟩
  go_wp2_with fail
  obtain ⟨g, hg⟩ : ∃ g, w0.heap.size = g := ⟨_, rfl⟩
  rw [hg]
  generalize hW : (((w0.alloc _).alloc _).alloc _) = W
  have hB0 : Blk W g g gT 9 := by rw [← hW, ← hg]; exact ((Blk.new w0 gT _).alloc _).alloc _
  have hB1 : Blk W g (g + 1) gE 24 := by
    rw [← hW, ← hg, show w0.heap.size + 1 = (w0.alloc (.cells gT 9)).heap.size from by simp]
    exact ((Blk.new (w0.alloc (.cells gT 9)) gE _).less (by simp)).alloc _
  have hB2 : Blk W g (g + 1 + 1) gP 3 := by
    rw [← hW, ← hg, show w0.heap.size + 1 + 1 = ((w0.alloc (.cells gT 9)).alloc (.cells gE 24)).heap.size from by simp]
    exact (Blk.new ((w0.alloc (.cells gT 9)).alloc (.cells gE 24)) gP _).less (by simp; omega)
  have hN : Nx w W := by rw [← hW]; exact Nx.al (Nx.al (Nx.al hb _) _) _
  clear hW
  go_loopw [4] (fun v wr => ∃ i : Nat, v = .int .i64 i ∧ i ≤ 37 ∧ Nx W wr) (fun v _ => (37 - intOf v).toNat)
  case atStart => exact ⟨0, rfl, by decide, Nx.refl _⟩
  case round =>
    obtain ⟨i, rfl, hi, hbr⟩ := hrel
    have hMr := HM.out.nx (Nx.trans hN hbr)
    by_cases hlt : i < 37
    · obtain ⟨s, l, e, p, h1, h2, h3, h4, h5, h6⟩ := HF.out i hlt
      have c1 : wr.cell? ⟨g, i, none⟩ = some (.string s) := by rw [(hB0.below hbr).cell i]; exact h1
      have HS2 := Lib.hid h2
      have HS3 := Lib.hid h3
      have H4 := Lib.hid h4
      have H5 := Lib.hid h5
      clear h1 h2 h3 h4 h5
      go_wp2_with fail
      refine (lex_any s l _ HS2.out h6 hMr).mono ?_; rintro e' w9 ⟨v9, rfl, hv9, hw9⟩
      rw [HS3.out]
      have hN9 := Nx.trans hbr hw9
      have c2 : w9.cell? ⟨g + 1, i, none⟩ = some (.int .i64 e) := by rw [(hB1.below hN9).cell i]; exact H4.out
      have c3 : w9.cell? ⟨g + 1 + 1, i, none⟩ = some (.int .i64 p) := by rw [(hB2.below hN9).cell i]; exact H5.out
      clear hv9
      go_wp2_with fail
      go_roundw
      case rel => exact ⟨i + 1, by go_num, hlt, hN9⟩
      case measure => simp [intOf]; omega
    · obtain rfl : i = 37 := by omega
      have hn0 := Nx.trans hN hbr
      clear hMr
      go_wp2_with (first
        | (refine wpList_mkb _ (o := ⟨some 49, _, _, _, _, _⟩) rfl _ _ rfl _ _ 2001 rfl rfl (by decide) (by decide) ?_; intro A1 w1 zs hr1 HZ hw1)
        | (refine wpList_str _ (o := ⟨some 50, _, _, _, _, _⟩) rfl _ rfl Try.underlying34 Try.underlying5 Try.underlying9 A1 zs _ rfl hr1 ?_; intro t HT ht1 ht2)
        | fail)
      have hzl : Hid (zs.length = 2001) := by unfold Hid; rw [HZ.out]; simp
      have hn1 := Nx.trans hn0 hw1
      have hlx : Hid (lexS zs = ([], 4, 0)) := by unfold Hid lexS; rw [if_pos (by rw [hzl.out]; decide)]
      refine (lex_any t zs _ (by rw [HT.out]; exact Tx.of zs) (by rw [hzl.out]; decide) (HM.out.nx hn1)).mono ?_; rintro e w2 ⟨v2, rfl, hv2, hw2⟩
      rw [hlx.out]
      have hn2 := Nx.trans hn1 hw2
      clear hv2
      go_wp2_with fail
      refine (lex_any ⟨#[48, 120, 49, 70, 32, 45, 55, 32, 46, 53, 32, 39, 97, 34, 98, 39, 32, 120, 95, 49]⟩ [48, 120, 49, 70, 32, 45, 55, 32, 46, 53, 32, 39, 97, 34, 98, 39, 32, 120, 95, 49] _ rfl (by decide) (HM.out.nx hn2)).mono ?_; rintro e w3 ⟨v3, rfl, hv3, hw3⟩
      rw [form_last] at hv3 ⊢
      dsimp only at hv3 ⊢
      obtain ⟨A, c, rfl, hc1, hc2, hr⟩ := hv3.sl
      have hn3 := Nx.trans hn2 hw3
      obtain ⟨gg, rfl, hgg, -, -, a0, -, -⟩ := hr.at_ 0 (by decide)
      obtain ⟨g1, e1, -, -, -, a1, -, -⟩ := hr.at_ 1 (by decide)
      obtain ⟨g2, e2, -, -, -, -, a2, -⟩ := hr.at_ 2 (by decide)
      obtain ⟨g3, e3, -, -, a3, -, -, -⟩ := hr.at_ 3 (by decide)
      obtain ⟨g4, e4, -, -, a4, -, -, -⟩ := hr.at_ 4 (by decide)
      injection e1 with e1; injection e1 with e1; subst e1
      injection e2 with e2; injection e2 with e2; subst e2
      injection e3 with e3; injection e3 with e3; subst e3
      injection e4 with e4; injection e4 with e4; subst e4
      have b0 : w3.cell? ⟨gg, 2, none⟩ = some (.int .i64 31) := a0
      have b1 : w3.cell? ⟨gg, 7, none⟩ = some (.int .i64 (-7)) := a1
      have b2 : w3.cell? ⟨gg, 13, none⟩ = some (.int .u64 4602678819172646912) := a2
      have b3 : w3.cell? ⟨gg, 16, none⟩ = some (.string ⟨#[97, 34, 98]⟩) := a3
      have b4 : w3.cell? ⟨gg, 21, none⟩ = some (.string ⟨#[120, 95, 49]⟩) := a4
      clear hr hv3 a0 a1 a2 a3 a4
      dsimp only [List.length] at hc1 ⊢
      have hc3 : (6 : Int) ≤ (c : Int) := by simp at hc1; omega
      go_wp2_with fail
      go_ret
      exact ⟨rfl, hn3⟩
end Go.Proofs.Ytiefheocomkfiaa
