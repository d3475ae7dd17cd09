/- The contracts of token's names, quoted texts. The contracts of token's numbers and first words. The contract of token's first word. Rows of words that a call owns; worlds that changed in one block alone. Plain lemmas. The contracts of token's cursor. The contract of token.Lex. The words of a text rise, and the last one is the end. Plain lemmas; and the laws' test of whether token does anything yet. -/
import Derived.Test.YtpaacfoiiihbeaaGreatMTokA
import Derived.Test.YtpaacfoiiihbeaaGreatMBase
import Derived.Lib.SmallJoins
import Derived.Laws.Rows
import Derived.Laws.ResultCell
import Derived.Test.YtpaacfoiiihbeaaGreatDecS
-- TokF
set_option linter.unusedVariables false
set_option linter.unusedSimpArgs false
namespace Go.Proofs.YtpaacfoiiihbeaaGreat
open Go.RowKit

/-- []byte(s) -/
theorem wpList_bytes {P : Program} (w : World) {ops : Array Oper} {rest : List Oper} {o : Oper} {a : Act} {Q : Exit → Act → World → Prop} {src dst e : TypeId} (hgd : o.guard = none) (x : Operand) (ho : o.op = .convert src dst x) (hs : P.underlying src = some .string) (hd : P.underlying dst = some (.slice e)) (he : P.underlying e = some (.int .u8))
    (s : ByteArray) (l : List UInt8) (hl : Tx s l) (hx : a.eval x = .string s)
    (h : ∀ c w', Rd bv w' (some ⟨w.heap.size, 0, none⟩) l → Nx w w' → wpList P ops Q rest (a.put o.dst (.slice (some ⟨w.heap.size, 0, none⟩) l.length c)) w') : wpList P ops Q (o :: rest) a w := by
  refine wpList_plain hgd fun K hK => ?_
  have hrun := Lib.run_convert_string_bytes (P := P) w src dst e s hs hd he
  have hn : Nx w (Lib.bytesWorld w e s) := Joins.below_bytesWorld _ w e s (Nat.le_refl _)
  have hr : Rd bv (Lib.bytesWorld w e s) (some ⟨w.heap.size, 0, none⟩) l := by
    intro h0
    refine ⟨w.heap.size, 0, rfl, by rw [Lib.bytesWorld_size]; omega, fun j hj => ?_⟩
    rw [Nat.zero_add, Lib.bytesWorld_cell w e s j (by rw [hl.size]; exact hj), show s.data.toList = l from hl]
    simp [bv, hj]
  have := hK _ _ (h (grownCap w s.size 0 e) _ hr hn)
  unfold Oper.wp execOp
  simp only [ho, Sem.run_bind, Sem.run_pure, Result.andThen_ok, hx, hrun]
  rw [hl.size] at *
  exact this

set_option maxRecDepth 100000 in
set_option maxHeartbeats 800000 in
theorem fresh_any (s : ByteArray) (l : List UInt8) (w : World) (hl : Tx s l) :
    Calls Tryz.prog 57 #[.string s] w fun e w' => e = .returned (.string ⟨l.toArray⟩) ∧ Nx w w' := by
  go_enter Tryz.func57, Tryz.ntmps57
  go_wp2_with (first
    | (refine wpList_bytes _ (o := ⟨some 4, _, _, _, _, _⟩) rfl _ rfl Tryz.underlying9 Tryz.underlying29 Tryz.underlying5 s l hl rfl ?_; intro c1 w1 hr1 hw1)
    | (refine wpList_str _ (o := ⟨some 5, _, _, _, _, _⟩) rfl _ rfl Tryz.underlying29 Tryz.underlying5 Tryz.underlying9 _ l _ rfl hr1 ?_; intro t HT ht1 ht2))
  go_ret
  rw [HT.out]
  exact ⟨rfl, hw1⟩

theorem results_cell_tmp2_row {P : Program} {fn : Func} {p u v : Tmp} {ty : TypeId} (h : fn.results = #[.cell p ty, .tmp u, .tmp v]) (tmps : Array Value) (w : World) (g : Nat) (t : TypeId) (cs : Array Value) (fr : Nat × Nat) (d : TypeDesc)
    (hp : tmps.getD p undef = .pointer (some ⟨g, 0, none⟩)) (hg : w.heap[g]? = some (.cells cs t fr))
    (hu : P.underlying ty = some d) (hd : (match d with | .struct _ | .array _ _ => true | _ => false) = true) (hi : (P.info? ty).map (·.size) = some cs.size) :
    (results fn tmps).run P w = .ok (.tuple #[.agg cs, tmps.getD u undef, tmps.getD v undef]) w := by
  have hp' : tmps[p]?.getD undef = .pointer (some ⟨g, 0, none⟩) := by simpa using hp
  simp [results, h, hp', asAddr, run_loadVar_row w g t ty cs fr d hg hu hd hi]

theorem Blk.put5 {w : World} {B g : Nat} {T : TypeId} {a0 a1 a2 a3 a4 v0 v1 v2 v3 v4 : Value} (h : Blk w B g #[a0, a1, a2, a3, a4] T) :
    Blk (((((w.setCell ⟨g, 0, none⟩ v0).setCell ⟨g, 1, none⟩ v1).setCell ⟨g, 2, none⟩ v2).setCell ⟨g, 3, none⟩ v3).setCell ⟨g, 4, none⟩ v4) B g #[v0, v1, v2, v3, v4] T :=
  ((((h.put 0 v0).put 1 v1).put 2 v2).put 3 v3).put 4 v4
theorem Nx.put5 {w w' : World} {g : Nat} {v0 v1 v2 v3 v4 : Value} (h : Nx w w') (hk : w.heap.size ≤ g) :
    Nx w (((((w'.setCell ⟨g, 0, none⟩ v0).setCell ⟨g, 1, none⟩ v1).setCell ⟨g, 2, none⟩ v2).setCell ⟨g, 3, none⟩ v3).setCell ⟨g, 4, none⟩ v4) :=
  ((((h.put' hk 0 v0).put' hk 1 v1).put' hk 2 v2).put' hk 3 v3).put' hk 4 v4

/-- the cells of a word -/
def tokC (x : TokV) : Array Value := #[.int .i64 x.k, .string ⟨x.t.toArray⟩, .int .i64 x.n, .int .u64 x.d, .int .i64 x.p]
/-- what a function hands back that cuts a word -/
def TokR (e : Ending) (r : Nat × TokV × Nat) : Prop :=
  ∃ k t v d p n, e = .returned (.tuple #[.agg #[.int .i64 k, .string t, .int .i64 v, .int .u64 d, .int .i64 p], .int .i64 n, .int .i64 (r.1 : Nat)]) ∧
    (r.1 = 0 → #[.int .i64 k, .string t, .int .i64 v, .int .u64 d, .int .i64 p] = tokC r.2.1 ∧ n = (r.2.2 : Nat))

theorem dot_is (l : List UInt8) : dotBad l = (Lib.hasSuffix l [46] || Lib.contains l [46, 46]) := by
  induction l with
  | nil => rfl
  | cons c r ih =>
    have h1 : Lib.hasSuffix (c :: r) [46] = (decide (c = 46 ∧ r = []) || Lib.hasSuffix r [46]) := by
      unfold Lib.hasSuffix
      rw [Bool.eq_iff_iff, Bool.or_eq_true, List.isSuffixOf_iff_suffix, List.isSuffixOf_iff_suffix, List.suffix_cons_iff]
      simp
      constructor
      · rintro (⟨h, h'⟩ | h)
        · exact .inl ⟨h.symm, h'⟩
        · exact .inr h
      · rintro (⟨h, h'⟩ | h)
        · exact .inl ⟨h.symm, h'⟩
        · exact .inr h
    have h2 : Lib.contains (c :: r) [46, 46] = (decide (c = 46 ∧ r.head? = some 46) || Lib.contains r [46, 46]) := by
      unfold Lib.contains
      conv => lhs; unfold Lib.index
      have hp : List.isPrefixOf [46, 46] (c :: r) = decide (c = 46 ∧ r.head? = some 46) := by
        rw [Bool.eq_iff_iff]
        cases r with
        | nil => simp [List.isPrefixOf]
        | cons d r => simp [List.isPrefixOf]; exact ⟨fun h => ⟨h.1.symm, h.2.symm⟩, fun h => ⟨h.1.symm, h.2.symm⟩⟩
      rw [hp]
      have hge := Lib.index_ge r [46, 46]
      by_cases hc : c = 46 ∧ r.head? = some 46
      · simp [hc]
      · rw [if_neg (by simpa using hc), decide_eq_false hc, Bool.false_or]
        by_cases hx : Lib.index r [46, 46] = -1
        · rw [hx]; rfl
        · have : (Lib.index r [46, 46] == -1) = false := by rw [beq_eq_false_iff_ne]; exact hx
          rw [this, Bool.eq_iff_iff]
          simp
          omega
    rw [h1, h2]
    unfold dotBad
    rw [ih]
    have h46 : decide (c.toNat = 46) = decide (c = 46) := by
      rw [Bool.eq_iff_iff]; simp; rw [← UInt8.toNat_inj]; rfl
    rw [h46]
    cases r with
    | nil =>
      by_cases hc : c = 46
      · simp [hc]
      · simp [hc]
    | cons d r =>
      by_cases hc : c = 46
      · simp [hc, Bool.or_left_comm, Bool.or_comm, Bool.or_assoc]
      · simp [hc]

set_option maxRecDepth 100000 in
set_option maxHeartbeats 1600000 in
theorem name_any (s : ByteArray) (l : List UInt8) (w : World) (hl : Tx s l) (hs : (l.length : Int) ≤ 100000) (hm : MaxC w) :
    Calls Tryz.prog 52 #[.string s] w fun e w' => TokR e (nameS l) ∧ Nx w w' := by
  have HL := Lib.hid hl
  have hz : (s.size : Int) = (l.length : Int) := by rw [hl.size]
  have HM := Lib.hid hm
  obtain ⟨N, hN⟩ : ∃ N, Hid (spanN isNmS l = N) := ⟨_, rfl⟩
  have hNl : (N : Int) ≤ (l.length : Int) := by have := spanN_le isNmS l; rw [hN.out] at this; omega
  obtain ⟨u, hu, HU⟩ := HL.out.upto N
  have HUD : Hid (u.data.toList = l.take N) := HU.out
  obtain ⟨b1, hb1⟩ : ∃ b, Hid (Lib.hasSuffix (l.take N) [46] = b) := ⟨_, rfl⟩
  obtain ⟨b2, hb2⟩ : ∃ b, Hid (Lib.contains (l.take N) [46, 46] = b) := ⟨_, rfl⟩
  have HX : Hid (nameS l = if 120 < N then (4, tok0, 0) else if (b1 || b2) then (2, tok0, 0) else (0, ⟨1, l.take N, 0, 0, 0⟩, N)) := by
    unfold Hid nameS; rw [hN.out, dot_is, hb1.out, hb2.out]
  have hus : (u.size : Int) ≤ 100000 := by rw [HU.out.size]; simp; omega
  clear hl hm
  go_enter Tryz.func52, Tryz.ntmps52
  go_wp2_with fail
  refine (span_any _ isNmS such_name s l _ HL.out (by omega)).mono ?_; rintro e w' ⟨rfl, rfl⟩
  rw [hN.out]
  by_cases h1 : 120 < N
  · have g1 : decide ((120 : Int) < (N : Int)) = true := decide_eq_true (by omega)
    have HX2 : Hid (nameS l = (4, tok0, 0)) := by unfold Hid; rw [HX.out, if_pos h1]
    clear h1
    go_wp2_with fail
    refine bodyPost_ret (results_cell_tmp2_row rfl _ _ w.heap.size _ _ _ _ rfl (heap_alloc_new w _) Tryz.underlying44 rfl (by kernel_rfl)) rfl ?_
    refine ⟨⟨_, _, _, _, _, _, by rw [HX2.out]; rfl, fun h => ?_⟩, nx0 _ _⟩
    rw [HX2.out] at h; cases h
  · have g1 : decide ((120 : Int) < (N : Int)) = false := decide_eq_false (by omega)
    have HX2 : Hid (nameS l = if (b1 || b2) then (2, tok0, 0) else (0, ⟨1, l.take N, 0, 0, 0⟩, N)) := by unfold Hid; rw [HX.out, if_neg h1]
    clear h1
    go_wp2_with fail
    refine (Tryz.strings_HasSuffix u ⟨#[46]⟩ _ (by omega)).mono ?_; rintro e w' ⟨rfl, rfl⟩
    rw [HUD.out, show (ByteArray.mk #[46]).data.toList = [46] from rfl, hb1.out]
    cases b1
    · go_wp2_with fail
      obtain ⟨m, hmm⟩ := HM.out.nx (nx0 w (.cells #[.int .i64 0, .string ⟨#[]⟩, .int .i64 0, .int .u64 0, .int .i64 0] 44))
      refine (Tryz.strings_Contains u ⟨#[46, 46]⟩ m _ (by omega) hmm).mono ?_; rintro e w' ⟨rfl, rfl⟩
      rw [HUD.out, show (ByteArray.mk #[46, 46]).data.toList = [46, 46] from rfl, hb2.out]
      cases b2
      · have HX3 : Hid (nameS l = (0, ⟨1, l.take N, 0, 0, 0⟩, N)) := HX2
        clear hmm
        obtain ⟨g, hg⟩ : ∃ g, w.heap.size = g := ⟨_, rfl⟩
        have hB0 := Blk.new w #[.int .i64 0, .string ⟨#[]⟩, .int .i64 0, .int .u64 0, .int .i64 0] 44
        rw [hg] at hB0
        have hN0 : Nx w (w.alloc (Obj.cells #[.int .i64 0, .string ⟨#[]⟩, .int .i64 0, .int .u64 0, .int .i64 0] 44)) := nx0 _ _
        go_wp2_with fail
        refine (fresh_any u (l.take N) _ HU.out).mono ?_; rintro e w2 ⟨rfl, hw2⟩
        have hB2 := hB0.below hw2
        have hN2 := Nx.trans hN0 hw2
        have c0 : w2.cell? ⟨g, 0, none⟩ = some (.int .i64 0) := hB2.cell 0
        have c1 : w2.cell? ⟨g, 1, none⟩ = some (.string ⟨#[]⟩) := hB2.cell 1
        have c2 : w2.cell? ⟨g, 2, none⟩ = some (.int .i64 0) := hB2.cell 2
        have c3 : w2.cell? ⟨g, 3, none⟩ = some (.int .u64 0) := hB2.cell 3
        have c4 : w2.cell? ⟨g, 4, none⟩ = some (.int .i64 0) := hB2.cell 4
        have f0 := hB2.free 0
        have f1 := hB2.free 1
        have f2 := hB2.free 2
        have f3 := hB2.free 3
        have f4 := hB2.free 4
        go_wp2_with fail
        refine bodyPost_ret (results_cell_tmp2_row rfl _ _ g _ _ _ _ rfl hB2.put5.2 Tryz.underlying44 rfl (by kernel_rfl)) rfl ?_
        refine ⟨⟨_, _, _, _, _, _, by rw [HX3.out]; rfl, fun _ => ?_⟩, hN2.put5 (by omega)⟩
        rw [HX3.out]
        exact ⟨rfl, rfl⟩
      · have HX3 : Hid (nameS l = (2, tok0, 0)) := HX2
        clear hmm
        go_wp2_with fail
        refine bodyPost_ret (results_cell_tmp2_row rfl _ _ w.heap.size _ _ _ _ rfl (heap_alloc_new w _) Tryz.underlying44 rfl (by kernel_rfl)) rfl ?_
        refine ⟨⟨_, _, _, _, _, _, by rw [HX3.out]; rfl, fun h => ?_⟩, nx0 _ _⟩
        rw [HX3.out] at h; cases h
    · have HX3 : Hid (nameS l = (2, tok0, 0)) := HX2
      go_wp2_with fail
      refine bodyPost_ret (results_cell_tmp2_row rfl _ _ w.heap.size _ _ _ _ rfl (heap_alloc_new w _) Tryz.underlying44 rfl (by kernel_rfl)) rfl ?_
      refine ⟨⟨_, _, _, _, _, _, by rw [HX3.out]; rfl, fun h => ?_⟩, nx0 _ _⟩
      rw [HX3.out] at h; cases h
theorem spanN_cut (p : UInt8 → Bool) (l : List UInt8) (n : Nat) : spanN p (l.take n) = min (spanN p l) n := by
  induction l generalizing n with
  | nil => simp [spanN]
  | cons c l ih =>
    cases n with
    | zero => simp [spanN]
    | succ n =>
      rw [List.take_succ_cons]
      unfold spanN
      by_cases h : p c = true
      · rw [if_pos h, if_pos h, ih]; omega
      · rw [if_neg h, if_neg h]; omega
theorem cells5 {w : World} {B g : Nat} {T : TypeId} {a0 a1 a2 a3 a4 : Value} (h : Blk w B g #[a0, a1, a2, a3, a4] T) :
    w.cell? ⟨g, 0, none⟩ = some a0 ∧ w.cell? ⟨g, 1, none⟩ = some a1 ∧ w.cell? ⟨g, 2, none⟩ = some a2 ∧ w.cell? ⟨g, 3, none⟩ = some a3 ∧ w.cell? ⟨g, 4, none⟩ = some a4 ∧
    w.frozen? ⟨g, 0, none⟩ = false ∧ w.frozen? ⟨g, 1, none⟩ = false ∧ w.frozen? ⟨g, 2, none⟩ = false ∧ w.frozen? ⟨g, 3, none⟩ = false ∧ w.frozen? ⟨g, 4, none⟩ = false :=
  ⟨h.cell 0, h.cell 1, h.cell 2, h.cell 3, h.cell 4, h.free 0, h.free 1, h.free 2, h.free 3, h.free 4⟩

set_option maxRecDepth 100000 in
set_option maxHeartbeats 1600000 in
theorem quoted_any (s : ByteArray) (q : UInt8) (r : List UInt8) (w : World) (hl : Tx s (q :: r)) (hs : (r.length : Int) ≤ 100000) :
    Calls Tryz.prog 55 #[.string s] w fun e w' => TokR e (quotedS q r) ∧ Nx w w' := by
  obtain ⟨hp, t, e0, e1, ht, e2, e3⟩ := hl.cons
  have HT := Lib.hid ht
  have hz : (t.size : Int) = (r.length : Int) := by rw [ht.size]
  have hz2 : (1 : Int) ≤ (s.size : Int) := by omega
  obtain ⟨N, hN⟩ : ∃ N, Hid (quoteN q r = N) := ⟨_, rfl⟩
  obtain ⟨K, hK⟩ : ∃ K, Hid (lineN r = K) := ⟨_, rfl⟩
  have hNl : N ≤ r.length := by have := spanN_le (fun c => decide (c ≠ q)) r; rw [show spanN (fun c => decide (c ≠ q)) r = N from hN.out] at this; exact this
  have HI : Hid (Lib.indexByte t.data.toList (q.toNat : Int).toNat.toUInt8 = if N < r.length then (N : Int) else -1) := by
    unfold Hid
    have hq : (q.toNat : Int).toNat.toUInt8 = q := by rw [Int.toNat_natCast]; exact UInt8.ofNat_toNat
    rw [hq, show t.data.toList = r from ht, index_other, show spanN (fun c => decide (c ≠ q)) r = N from hN.out]
  have HX : Hid (quotedS q r = if N = r.length ∨ K < N then (2, tok0, 0) else (0, ⟨4, r.take N, 0, 0, 0⟩, N + 2)) := by
    unfold Hid quotedS; rw [hN.out, hK.out]
  clear hl ht
  obtain ⟨g, hg⟩ : ∃ g, w.heap.size = g := ⟨_, rfl⟩
  have hB0 := Blk.new w #[.int .i64 0, .string ⟨#[]⟩, .int .i64 0, .int .u64 0, .int .i64 0] 44
  rw [hg] at hB0
  have hN0 : Nx w (w.alloc (Obj.cells #[.int .i64 0, .string ⟨#[]⟩, .int .i64 0, .int .u64 0, .int .i64 0] 44)) := nx0 _ _
  go_enter Tryz.func55, Tryz.ntmps55
  go_wp2_with fail
  go_quiet (fail)
  go_wp2_with fail
  generalize hW1 : World.drewN _ _ = w1
  have hB1 : Blk w1 g g #[.int .i64 0, .string ⟨#[]⟩, .int .i64 0, .int .u64 0, .int .i64 0] 44 := by rw [← hW1]; exact hB0.drew _
  have hN1 : Nx w w1 := by rw [← hW1]; exact hN0.dr _
  clear hW1 hB0 hN0
  refine (Tryz.strings_IndexByte t (q.toNat : Int) w1).mono ?_; rintro e w' ⟨rfl, rfl⟩
  rw [HI.out]
  obtain ⟨c0, c1, c2, c3, c4, f0, f1, f2, f3, f4⟩ := cells5 hB1
  have hB := Lib.hid hB1
  clear hB1
  by_cases hlt : N < r.length
  · rw [if_pos hlt]
    obtain ⟨u, hu, HU⟩ := HT.out.upto N
    have HX2 : Hid (quotedS q r = if K < N then (2, tok0, 0) else (0, ⟨4, r.take N, 0, 0, 0⟩, N + 2)) := by
      unfold Hid; rw [HX.out]
      by_cases hk : K < N
      · rw [if_pos (.inr hk), if_pos hk]
      · rw [if_neg (by omega), if_neg hk]
    have HI2 : Hid (Lib.indexByte u.data.toList (10 : Int).toNat.toUInt8 = if K < N then (K : Int) else -1) := by
      unfold Hid
      have h1 := index_other (r.take N) 10
      have h2 : spanN (fun c => decide (c ≠ 10)) r = K := hK.out
      rw [spanN_cut, h2, List.length_take, Nat.min_eq_left (show N ≤ r.length by omega)] at h1
      rw [show u.data.toList = r.take N from HU.out]
      refine h1.trans ?_
      by_cases hk : K < N
      · rw [if_pos hk, if_pos (by omega), Nat.min_eq_left (by omega)]
      · rw [if_neg hk, if_neg (by omega)]
    have hN0 : (N : Int) ≤ (r.length : Int) := by omega
    go_wp2_with fail
    refine (Tryz.strings_IndexByte u 10 w').mono ?_; rintro e w' ⟨rfl, rfl⟩
    rw [HI2.out]
    by_cases hk : K < N
    · have HX3 : Hid (quotedS q r = (2, tok0, 0)) := by unfold Hid; rw [HX2.out, if_pos hk]
      rw [if_pos hk]
      clear hk
      go_wp2_with fail
      refine bodyPost_ret (results_cell_tmp2_row rfl _ _ g _ _ _ _ rfl hB.out.put5.2 Tryz.underlying44 rfl (by kernel_rfl)) rfl ?_
      refine ⟨⟨_, _, _, _, _, _, by rw [HX3.out]; rfl, fun h => ?_⟩, hN1.put5 (by omega)⟩
      rw [HX3.out] at h; cases h
    · have HX3 : Hid (quotedS q r = (0, ⟨4, r.take N, 0, 0, 0⟩, N + 2)) := by unfold Hid; rw [HX2.out, if_neg hk]
      rw [if_neg hk]
      clear hk c0 c1 c2 c3 c4 f0 f1 f2 f3 f4
      go_wp2_with fail
      refine (fresh_any u (r.take N) _ HU.out).mono ?_; rintro e w2 ⟨rfl, hw2⟩
      have hB2 := hB.out.below hw2
      have hN2 := Nx.trans hN1 hw2
      obtain ⟨c0, c1, c2, c3, c4, f0, f1, f2, f3, f4⟩ := cells5 hB2
      go_wp2_with fail
      refine bodyPost_ret (results_cell_tmp2_row rfl _ _ g _ _ _ _ rfl hB2.put5.2 Tryz.underlying44 rfl (by kernel_rfl)) rfl ?_
      refine ⟨⟨_, _, _, _, _, _, by rw [HX3.out]; rfl, fun _ => ?_⟩, hN2.put5 (by omega)⟩
      rw [HX3.out]
      exact ⟨rfl, rfl⟩
  · rw [if_neg hlt]
    have HX3 : Hid (quotedS q r = (2, tok0, 0)) := by unfold Hid; rw [HX.out, if_pos (.inl (by omega))]
    go_wp2_with fail
    refine bodyPost_ret (results_cell_tmp2_row rfl _ _ g _ _ _ _ rfl hB.out.put5.2 Tryz.underlying44 rfl (by kernel_rfl)) rfl ?_
    refine ⟨⟨_, _, _, _, _, _, by rw [HX3.out]; rfl, fun h => ?_⟩, hN1.put5 (by omega)⟩
    rw [HX3.out] at h; cases h
end Go.Proofs.YtpaacfoiiihbeaaGreat

-- TokG
set_option linter.unusedVariables false
set_option linter.unusedSimpArgs false
namespace Go.Proofs.YtpaacfoiiihbeaaGreat
open Go.RowKit

theorem hexN_le (l : List UInt8) : hexN l ≤ l.length ∧ (hexN l ≠ 0 → 3 ≤ hexN l) ∧ (∀ c ∈ (l.take (hexN l)).drop 2, isHexS c = true) := by
  cases l with
  | nil => exact ⟨Nat.le_refl _, fun h => absurd rfl h, fun c h => by simp [hexN] at h⟩
  | cons c r => cases r with
    | nil => exact ⟨Nat.zero_le _, fun h => absurd rfl h, fun c h => by simp [hexN] at h⟩
    | cons d r =>
      unfold hexN
      dsimp only
      split
      · rename_i h
        have := spanN_le isHexS r
        refine ⟨by simp; omega, fun _ => by omega, fun e he => ?_⟩
        rw [Nat.add_comm, List.take_succ_cons, List.take_succ_cons] at he
        exact spanN_take isHexS r e he
      · exact ⟨Nat.zero_le _, fun h => absurd rfl h, fun c h => by simp at h⟩
theorem decN_le (l : List UInt8) : decN l ≤ l.length := by
  unfold decN
  dsimp only
  have h1 := (sgnN_le l).1
  have h2 := digN_le (l.drop (sgnN l))
  have h3 := fracN_le (l.drop (sgnN l + digN (l.drop (sgnN l))))
  split
  · omega
  · have h4 := expN_le (l.drop (sgnN l + (digN (l.drop (sgnN l)) + fracN (l.drop (sgnN l + digN (l.drop (sgnN l)))))))
    simp at h2 h3 h4
    omega
theorem take_digits (l : List UInt8) (h : wholeB l = true) : ∀ c ∈ l.drop (sgnN l), isDig c = true := by
  have h1 := of_decide_eq_true h
  have h2 := spanN_take isDig (l.drop (sgnN l))
  have h3 : spanN isDig (l.drop (sgnN l)) = (l.drop (sgnN l)).length := by
    have : digN (l.drop (sgnN l)) = (l.drop (sgnN l)).length := by simp; omega
    exact this
  rw [h3, List.take_length] at h2
  exact h2

set_option maxRecDepth 100000 in
set_option maxHeartbeats 3200000 in
theorem number_any (s : ByteArray) (l : List UInt8) (w : World) (hl : Tx s l) (hs : (l.length : Int) ≤ 8000) :
    Calls Tryz.prog 54 #[.string s] w fun e w' => TokR e (numberS l) ∧ Nx w w' := by
  have HL := Lib.hid hl
  have hz : (s.size : Int) = (l.length : Int) := by rw [hl.size]
  obtain ⟨N, hN⟩ : ∃ N, hexN l = N := ⟨_, rfl⟩
  obtain ⟨hN1, hN2, hN3⟩ := hexN_le l
  rw [hN] at hN1 hN2 hN3
  obtain ⟨K, hK⟩ : ∃ K, decN l = K := ⟨_, rfl⟩
  have hK1 := decN_le l
  rw [hK] at hK1
  have HX : Hid (numberS l = if N ≠ 0 then ((hexS ((l.take N).drop 2)).2, ⟨2, [], (hexS ((l.take N).drop 2)).1, 0, 0⟩, N)
      else if K = 0 then (2, tok0, 0) else if wholeB (l.take K) then ((wholeS (l.take K)).2, ⟨2, [], (wholeS (l.take K)).1, 0, 0⟩, K)
      else ((parseS (l.take K)).2, ⟨3, [], 0, (parseS (l.take K)).1, 0⟩, K)) := by
    unfold Hid numberS; rw [hN, hK]
  have HN := Lib.hid hN
  have HN3 := Lib.hid hN3
  have HK := Lib.hid hK
  have hNI : (N : Int) ≤ (l.length : Int) := by omega
  have hKI : (K : Int) ≤ (l.length : Int) := by omega
  clear hl hN hK hN1 hK1 hN3
  obtain ⟨g, hg⟩ : ∃ g, w.heap.size = g := ⟨_, rfl⟩
  have hB0 := Blk.new w #[.int .i64 0, .string ⟨#[]⟩, .int .i64 0, .int .u64 0, .int .i64 0] 44
  rw [hg] at hB0
  have hN0 : Nx w (w.alloc (Obj.cells #[.int .i64 0, .string ⟨#[]⟩, .int .i64 0, .int .u64 0, .int .i64 0] 44)) := nx0 _ _
  go_enter Tryz.func54, Tryz.ntmps54
  go_wp2_with fail
  generalize hW1 : World.alloc _ _ = w1 at *
  refine (hexLength_any s l w1 HL.out (by omega)).mono ?_; rintro e w' ⟨rfl, rfl⟩
  rw [HN.out]
  obtain ⟨c0, c1, c2, c3, c4, f0, f1, f2, f3, f4⟩ := cells5 hB0
  by_cases h0 : N = 0
  · subst h0
    have HX2 : Hid (numberS l = if K = 0 then (2, tok0, 0) else if wholeB (l.take K) then ((wholeS (l.take K)).2, ⟨2, [], (wholeS (l.take K)).1, 0, 0⟩, K)
      else ((parseS (l.take K)).2, ⟨3, [], 0, (parseS (l.take K)).1, 0⟩, K)) := by unfold Hid; rw [HX.out, if_neg (by simp)]
    go_wp2_with fail
    refine (decimalLength_any s l _ HL.out (by omega)).mono ?_; rintro e w' ⟨rfl, rfl⟩
    rw [HK.out]
    by_cases hk : K = 0
    · have HX3 : Hid (numberS l = (2, tok0, 0)) := by unfold Hid; rw [HX2.out, if_pos hk]
      have b1 : ((K : Int) == 0) = true := by rw [beq_iff_eq]; omega
      clear hk
      go_wp2_with fail
      refine bodyPost_ret (results_cell_tmp2_row rfl _ _ g _ _ _ _ rfl hB0.put5.2 Tryz.underlying44 rfl (by kernel_rfl)) rfl ?_
      refine ⟨⟨_, _, _, _, _, _, by rw [HX3.out]; rfl, fun h => ?_⟩, hN0.put5 (by omega)⟩
      rw [HX3.out] at h; cases h
    · have HX3 : Hid (numberS l = if wholeB (l.take K) then ((wholeS (l.take K)).2, ⟨2, [], (wholeS (l.take K)).1, 0, 0⟩, K)
        else ((parseS (l.take K)).2, ⟨3, [], 0, (parseS (l.take K)).1, 0⟩, K)) := by unfold Hid; rw [HX2.out, if_neg hk]
      have b1 : ((K : Int) == 0) = false := by rw [beq_eq_false_iff_ne]; omega
      obtain ⟨u, hu, HU⟩ := HL.out.upto K
      have hne : l.take K ≠ [] := by
        intro h
        have : (l.take K).length = 0 := by rw [h]; rfl
        rw [List.length_take] at this
        omega
      have HNE := Lib.hid hne
      clear hk hne
      go_wp2_with fail
      refine (isWhole_any u (l.take K) _ HU.out (by simp; omega)).mono ?_; rintro e w' ⟨rfl, rfl⟩
      obtain ⟨b, hb⟩ : ∃ b, Hid (wholeB (l.take K) = b) := ⟨_, rfl⟩
      rw [hb.out] at HX3 ⊢
      cases b
      · have HX4 : Hid (numberS l = ((parseS (l.take K)).2, ⟨3, [], 0, (parseS (l.take K)).1, 0⟩, K)) := HX3
        clear c0 c1 c2 c3 c4 f0 f1 f2 f3 f4
        go_wp2_with fail
        refine (parse_any u (l.take K) _ HU.out (by simp; omega)).mono ?_; rintro e w2 ⟨rfl, hw2⟩
        have hB2 := hB0.below hw2
        have hN2 := Nx.trans hN0 hw2
        obtain ⟨c0, c1, c2, c3, c4, f0, f1, f2, f3, f4⟩ := cells5 hB2
        generalize parseS (l.take K) = P at *
        obtain ⟨p1, p2⟩ := P
        go_wp2_with fail
        refine bodyPost_ret (results_cell_tmp2_row rfl _ _ g _ _ _ _ rfl hB2.put5.2 Tryz.underlying44 rfl (by kernel_rfl)) rfl ?_
        refine ⟨⟨_, _, _, _, _, _, by rw [HX4.out]; rfl, fun _ => ?_⟩, hN2.put5 (by omega)⟩
        rw [HX4.out]
        exact ⟨rfl, rfl⟩
      · have HX4 : Hid (numberS l = ((wholeS (l.take K)).2, ⟨2, [], (wholeS (l.take K)).1, 0, 0⟩, K)) := HX3
        go_wp2_with fail
        refine (wholeValue_any u (l.take K) _ HU.out HNE.out (take_digits _ hb.out) (by simp; omega)).mono ?_; rintro e w2 ⟨rfl, rfl⟩
        generalize wholeS (l.take K) = P at *
        obtain ⟨p1, p2⟩ := P
        go_wp2_with fail
        refine bodyPost_ret (results_cell_tmp2_row rfl _ _ g _ _ _ _ rfl hB0.put5.2 Tryz.underlying44 rfl (by kernel_rfl)) rfl ?_
        refine ⟨⟨_, _, _, _, _, _, by rw [HX4.out]; rfl, fun _ => ?_⟩, hN0.put5 (by omega)⟩
        rw [HX4.out]
        exact ⟨rfl, rfl⟩
  · have HX2 : Hid (numberS l = ((hexS ((l.take N).drop 2)).2, ⟨2, [], (hexS ((l.take N).drop 2)).1, 0, 0⟩, N)) := by unfold Hid; rw [HX.out, if_pos h0]
    have g1 : decide ((0 : Int) < (N : Int)) = true := decide_eq_true (by omega)
    have g2 : (3 : Int) ≤ (N : Int) := by have := hN2 h0; omega
    obtain ⟨u, hu, HU⟩ := HL.out.mid 2 N
    have hul : (((l.take N).drop 2).length : Int) ≤ 8000 := by simp; omega
    clear h0 hN2
    go_wp2_with fail
    refine (hexValue_any u _ _ HU.out HN3.out (by omega)).mono ?_; rintro e w2 ⟨rfl, rfl⟩
    generalize hexS ((l.take N).drop 2) = P at *
    obtain ⟨p1, p2⟩ := P
    go_wp2_with fail
    refine bodyPost_ret (results_cell_tmp2_row rfl _ _ g _ _ _ _ rfl hB0.put5.2 Tryz.underlying44 rfl (by kernel_rfl)) rfl ?_
    refine ⟨⟨_, _, _, _, _, _, by rw [HX2.out]; rfl, fun _ => ?_⟩, hN0.put5 (by omega)⟩
    rw [HX2.out]
    exact ⟨rfl, rfl⟩
end Go.Proofs.YtpaacfoiiihbeaaGreat

-- TokH
set_option linter.unusedVariables false
set_option linter.unusedSimpArgs false
namespace Go.Proofs.YtpaacfoiiihbeaaGreat
open Go.RowKit

theorem index_signs (c : UInt8) : (0 ≤ Lib.indexByte signsL c ∧ signsL.contains c = true) ∨ (Lib.indexByte signsL c = -1 ∧ signsL.contains c = false) := by
  suffices h : ∀ l : List UInt8, (0 ≤ Lib.indexByte l c ∧ l.contains c = true) ∨ (Lib.indexByte l c = -1 ∧ l.contains c = false) from h _
  intro l
  induction l with
  | nil => exact .inr ⟨rfl, rfl⟩
  | cons d l ih =>
    unfold Lib.indexByte
    by_cases h : d = c
    · subst h; left; simp
    · have h1 : (d == c) = false := by simpa using h
      have h2 : (c == d) = false := by simpa using fun e => h e.symm
      rw [h1, List.contains_cons, h2, Bool.false_or]
      rcases ih with ⟨i1, i2⟩ | ⟨i1, i2⟩
      · left
        have h3 : (Lib.indexByte l c == -1) = false := by rw [beq_eq_false_iff_ne]; omega
        rw [h3]
        exact ⟨by simp; omega, i2⟩
      · right
        rw [i1]
        exact ⟨rfl, i2⟩

set_option maxRecDepth 100000 in
set_option maxHeartbeats 3200000 in
theorem first_any (s : ByteArray) (l : List UInt8) (w : World) (hl : Tx s l) (hs : (l.length : Int) ≤ 8000) (hm : MaxC w) :
    Calls Tryz.prog 24 #[.string s] w fun e w' => TokR e (firstS l) ∧ Nx w w' := by
  obtain ⟨g, hg⟩ : ∃ g, w.heap.size = g := ⟨_, rfl⟩
  have hB0 := Blk.new w #[.int .i64 0, .string ⟨#[]⟩, .int .i64 0, .int .u64 0, .int .i64 0] 44
  rw [hg] at hB0
  have hN0 : Nx w (w.alloc (Obj.cells #[.int .i64 0, .string ⟨#[]⟩, .int .i64 0, .int .u64 0, .int .i64 0] 44)) := nx0 _ _
  have HM := Lib.hid (hm.nx hN0)
  cases l with
  | nil =>
    have e1 := hl.nil.1
    clear hl HM
    go_enter Tryz.func24, Tryz.ntmps24
    go_wp2_with fail
    try simp only [Exit.inBlock, Exit.then]
    refine bodyPost_ret (results_cell_tmp2_row rfl _ _ w.heap.size _ _ _ _ (by rw [hg]; rfl) (heap_alloc_new w _) Tryz.underlying44 rfl (by kernel_rfl)) rfl ?_
    exact ⟨⟨_, _, _, _, _, _, rfl, fun _ => ⟨rfl, rfl⟩⟩, nx0 _ _⟩
  | cons c r =>
    have HL := Lib.hid hl
    obtain ⟨hp, t0, e0, e1, ht, e2, e3⟩ := hl.cons
    have hz : (s.size : Int) = (r.length : Int) + 1 := by rw [hl.size]; simp
    have hrl : (r.length : Int) ≤ 8000 := by simp at hs; omega
    obtain ⟨bl, hbl⟩ : ∃ b, Hid (isLetS c = b) := ⟨_, rfl⟩
    obtain ⟨bd, hbd⟩ : ∃ b, Hid (isDig c = b) := ⟨_, rfl⟩
    have HX : Hid (firstS (c :: r) = if bl || decide (c.toNat = 95) then nameS (c :: r)
      else if bd || decide (c.toNat = 43) || decide (c.toNat = 45) || decide (c.toNat = 46) then numberS (c :: r)
      else if c.toNat = 34 ∨ c.toNat = 39 then quotedS c r
      else if signsL.contains c then (0, ⟨5, [c], 0, 0, 0⟩, 1) else (2, tok0, 0)) := by
      unfold Hid; rw [← hbl.out, ← hbd.out]; rfl
    obtain ⟨u, hu, HU⟩ := HL.out.upto 1
    have HU2 : Hid (Tx u [c]) := HU
    clear hl ht e1 HU
    go_enter Tryz.func24, Tryz.ntmps24
    go_wp2_with fail
    generalize hW1 : World.alloc _ _ = w1 at *
    refine (isLetter_any c w1).mono ?_; rintro e w' ⟨rfl, rfl⟩
    rw [hbl.out]
    obtain ⟨c0, c1, c2, c3, c4, f0, f1, f2, f3, f4⟩ := cells5 hB0
    have hB := Lib.hid hB0
    have hNm : bl = true ∨ (bl = false ∧ ((c.toNat : Int) == 95) = true) ∨ (bl = false ∧ ((c.toNat : Int) == 95) = false ∧ c.toNat ≠ 95) := by
      cases bl
      · by_cases h : c.toNat = 95
        · exact .inr (.inl ⟨rfl, by rw [beq_iff_eq]; omega⟩)
        · exact .inr (.inr ⟨rfl, by rw [beq_eq_false_iff_ne]; omega, h⟩)
      · exact .inl rfl
    have HXN : Hid ((bl = true ∨ ((c.toNat : Int) == 95) = true) → firstS (c :: r) = nameS (c :: r)) := by
      intro h
      rw [HX.out, if_pos]
      rcases h with h | h
      · rw [h]; rfl
      · rw [decide_eq_true (show c.toNat = 95 by rw [beq_iff_eq] at h; omega)]; simp
    rcases hNm with rfl | ⟨rfl, b95⟩ | ⟨rfl, b95, n95⟩
    · have HX2 := Lib.hid (HXN.out (.inl rfl))
      clear hB0 c0 c1 c2 c3 c4 f0 f1 f2 f3 f4
      go_wp2_with fail
      refine (name_any s (c :: r) w' HL.out (by omega) HM.out).mono ?_; rintro e w2 ⟨⟨k, t, v, d, p, n, rfl, hok⟩, hw2⟩
      have hB2 := hB.out.below hw2
      have hN2 := Nx.trans hN0 hw2
      have HOK := Lib.hid hok
      obtain ⟨c0, c1, c2, c3, c4, f0, f1, f2, f3, f4⟩ := cells5 hB2
      clear hok
      go_wp2_with fail
      try simp only [Exit.inBlock, Exit.then]
      refine bodyPost_ret (results_cell_tmp2_row rfl _ _ g _ _ _ _ rfl hB2.put5.2 Tryz.underlying44 rfl (by kernel_rfl)) rfl ?_
      rw [HX2.out]
      exact ⟨⟨_, _, _, _, _, _, rfl, HOK.out⟩, hN2.put5 (by omega)⟩
    · have HX2 := Lib.hid (HXN.out (.inr b95))
      clear hB0 c0 c1 c2 c3 c4 f0 f1 f2 f3 f4
      go_wp2_with fail
      refine (name_any s (c :: r) w' HL.out (by omega) HM.out).mono ?_; rintro e w2 ⟨⟨k, t, v, d, p, n, rfl, hok⟩, hw2⟩
      have hB2 := hB.out.below hw2
      have hN2 := Nx.trans hN0 hw2
      have HOK := Lib.hid hok
      obtain ⟨c0, c1, c2, c3, c4, f0, f1, f2, f3, f4⟩ := cells5 hB2
      clear hok
      go_wp2_with fail
      try simp only [Exit.inBlock, Exit.then]
      refine bodyPost_ret (results_cell_tmp2_row rfl _ _ g _ _ _ _ rfl hB2.put5.2 Tryz.underlying44 rfl (by kernel_rfl)) rfl ?_
      rw [HX2.out]
      exact ⟨⟨_, _, _, _, _, _, rfl, HOK.out⟩, hN2.put5 (by omega)⟩
    · have HX2 : Hid (firstS (c :: r) = if bd || decide (c.toNat = 43) || decide (c.toNat = 45) || decide (c.toNat = 46) then numberS (c :: r)
        else if c.toNat = 34 ∨ c.toNat = 39 then quotedS c r
        else if signsL.contains c then (0, ⟨5, [c], 0, 0, 0⟩, 1) else (2, tok0, 0)) := by
        unfold Hid; rw [HX.out, if_neg (by simp; exact n95)]
      clear n95 HXN HX
      go_wp2_with fail
      refine (isDigit_any c _).mono ?_; rintro e w' ⟨rfl, rfl⟩
      rw [hbd.out]
      have hNu : (bd = true ∨ bd = false ∧ (((c.toNat : Int) == 43) = true ∨ ((c.toNat : Int) == 43) = false ∧ (((c.toNat : Int) == 45) = true ∨ ((c.toNat : Int) == 45) = false ∧ ((c.toNat : Int) == 46) = true))) ∨
          (bd = false ∧ ((c.toNat : Int) == 43) = false ∧ ((c.toNat : Int) == 45) = false ∧ ((c.toNat : Int) == 46) = false ∧ c.toNat ≠ 43 ∧ c.toNat ≠ 45 ∧ c.toNat ≠ 46) := by
        cases bd
        · by_cases h1 : c.toNat = 43
          · exact .inl (.inr ⟨rfl, .inl (by rw [beq_iff_eq]; omega)⟩)
          · have e1 : ((c.toNat : Int) == 43) = false := by rw [beq_eq_false_iff_ne]; omega
            by_cases h2 : c.toNat = 45
            · exact .inl (.inr ⟨rfl, .inr ⟨e1, .inl (by rw [beq_iff_eq]; omega)⟩⟩)
            · have e2 : ((c.toNat : Int) == 45) = false := by rw [beq_eq_false_iff_ne]; omega
              by_cases h3 : c.toNat = 46
              · exact .inl (.inr ⟨rfl, .inr ⟨e1, .inr ⟨e2, by rw [beq_iff_eq]; omega⟩⟩⟩)
              · exact .inr ⟨rfl, e1, e2, by rw [beq_eq_false_iff_ne]; omega, h1, h2, h3⟩
        · exact .inl (.inl rfl)
      rcases hNu with hNu | ⟨rfl, b43, b45, b46, n43, n45, n46⟩
      · have HX3 : Hid (firstS (c :: r) = numberS (c :: r)) := by
          unfold Hid
          rw [HX2.out, if_pos]
          rcases hNu with h | ⟨_, h | ⟨_, h | ⟨_, h⟩⟩⟩
          · rw [h]; rfl
          · rw [decide_eq_true (show c.toNat = 43 by rw [beq_iff_eq] at h; omega)]; simp
          · rw [decide_eq_true (show c.toNat = 45 by rw [beq_iff_eq] at h; omega)]; simp
          · rw [decide_eq_true (show c.toNat = 46 by rw [beq_iff_eq] at h; omega)]; simp
        rcases hNu with rfl | ⟨rfl, b43 | ⟨b43, b45 | ⟨b45, b46⟩⟩⟩
        all_goals
          clear hB0 c0 c1 c2 c3 c4 f0 f1 f2 f3 f4
          go_wp2_with fail
          refine (number_any s (c :: r) w' HL.out hs).mono ?_; rintro e w2 ⟨⟨k, t, v, d, p, n, rfl, hok⟩, hw2⟩
          have hB2 := hB.out.below hw2
          have hN2 := Nx.trans hN0 hw2
          have HOK := Lib.hid hok
          obtain ⟨c0, c1, c2, c3, c4, f0, f1, f2, f3, f4⟩ := cells5 hB2
          clear hok
          go_wp2_with fail
          try simp only [Exit.inBlock, Exit.then]
          refine bodyPost_ret (results_cell_tmp2_row rfl _ _ g _ _ _ _ rfl hB2.put5.2 Tryz.underlying44 rfl (by kernel_rfl)) rfl ?_
          rw [HX3.out]
          exact ⟨⟨_, _, _, _, _, _, rfl, HOK.out⟩, hN2.put5 (by omega)⟩
      · have HX3 : Hid (firstS (c :: r) = if c.toNat = 34 ∨ c.toNat = 39 then quotedS c r
          else if signsL.contains c then (0, ⟨5, [c], 0, 0, 0⟩, 1) else (2, tok0, 0)) := by
          unfold Hid; rw [HX2.out, if_neg (by simp; exact ⟨⟨n43, n45⟩, n46⟩)]
        clear n43 n45 n46
        have hQ : (((c.toNat : Int) == 34) = true ∨ ((c.toNat : Int) == 34) = false ∧ ((c.toNat : Int) == 39) = true) ∨ (((c.toNat : Int) == 34) = false ∧ ((c.toNat : Int) == 39) = false ∧ ¬ (c.toNat = 34 ∨ c.toNat = 39)) := by
          by_cases h1 : c.toNat = 34
          · exact .inl (.inl (by rw [beq_iff_eq]; omega))
          · have e1 : ((c.toNat : Int) == 34) = false := by rw [beq_eq_false_iff_ne]; omega
            by_cases h2 : c.toNat = 39
            · exact .inl (.inr ⟨e1, by rw [beq_iff_eq]; omega⟩)
            · exact .inr ⟨e1, by rw [beq_eq_false_iff_ne]; omega, by omega⟩
        rcases hQ with hQ | ⟨b34, b39, hq⟩
        · have HX4 : Hid (firstS (c :: r) = quotedS c r) := by
            unfold Hid
            rw [HX3.out, if_pos]
            rcases hQ with h | ⟨_, h⟩
            · rw [beq_iff_eq] at h; omega
            · rw [beq_iff_eq] at h; omega
          rcases hQ with b34 | ⟨b34, b39⟩
          all_goals
            clear hB0 c0 c1 c2 c3 c4 f0 f1 f2 f3 f4
            go_wp2_with fail
            refine (quoted_any s c r w' HL.out (by omega)).mono ?_; rintro e w2 ⟨⟨k, t, v, d, p, n, rfl, hok⟩, hw2⟩
            have hB2 := hB.out.below hw2
            have hN2 := Nx.trans hN0 hw2
            have HOK := Lib.hid hok
            obtain ⟨c0, c1, c2, c3, c4, f0, f1, f2, f3, f4⟩ := cells5 hB2
            clear hok
            go_wp2_with fail
            try simp only [Exit.inBlock, Exit.then]
            refine bodyPost_ret (results_cell_tmp2_row rfl _ _ g _ _ _ _ rfl hB2.put5.2 Tryz.underlying44 rfl (by kernel_rfl)) rfl ?_
            rw [HX4.out]
            exact ⟨⟨_, _, _, _, _, _, rfl, HOK.out⟩, hN2.put5 (by omega)⟩
        · have HX4 : Hid (firstS (c :: r) = if signsL.contains c then (0, ⟨5, [c], 0, 0, 0⟩, 1) else (2, tok0, 0)) := by
            unfold Hid; rw [HX3.out, if_neg hq]
          clear hq
          go_wp2_with fail
          refine (Tryz.strings_IndexByte ⟨#[123, 125, 40, 41, 91, 93, 60, 62, 44, 59, 58, 61, 42]⟩ (c.toNat : Int) w').mono ?_; rintro e w' ⟨rfl, rfl⟩
          have hI : Hid (Lib.indexByte (ByteArray.mk #[123, 125, 40, 41, 91, 93, 60, 62, 44, 59, 58, 61, 42]).data.toList (c.toNat : Int).toNat.toUInt8 = Lib.indexByte signsL c) := by
            have hq : (c.toNat : Int).toNat.toUInt8 = c := by rw [Int.toNat_natCast]; exact UInt8.ofNat_toNat
            unfold Hid; rw [hq]; rfl
          rw [hI.out]
          obtain ⟨I, hI2⟩ : ∃ I, Hid (Lib.indexByte signsL c = I) := ⟨_, rfl⟩
          have hcase := index_signs c
          rw [hI2.out] at hcase ⊢
          rcases hcase with ⟨hI0, hcon⟩ | ⟨rfl, hcon⟩
          · have HX5 : Hid (firstS (c :: r) = (0, ⟨5, [c], 0, 0, 0⟩, 1)) := by unfold Hid; rw [HX4.out, if_pos hcon]
            have b0 : decide ((0 : Int) ≤ I) = true := decide_eq_true hI0
            clear hcon
            clear hB0 c0 c1 c2 c3 c4 f0 f1 f2 f3 f4
            go_wp2_with fail
            refine (fresh_any u [c] w' HU2.out).mono ?_; rintro e w2 ⟨rfl, hw2⟩
            have hB2 := hB.out.below hw2
            have hN2 := Nx.trans hN0 hw2
            obtain ⟨c0, c1, c2, c3, c4, f0, f1, f2, f3, f4⟩ := cells5 hB2
            go_wp2_with fail
            try simp only [Exit.inBlock, Exit.then]
            refine bodyPost_ret (results_cell_tmp2_row rfl _ _ g _ _ _ _ rfl hB2.put5.2 Tryz.underlying44 rfl (by kernel_rfl)) rfl ?_
            rw [HX5.out]
            exact ⟨⟨_, _, _, _, _, _, rfl, fun _ => ⟨rfl, rfl⟩⟩, hN2.put5 (by omega)⟩
          · have HX5 : Hid (firstS (c :: r) = (2, tok0, 0)) := by unfold Hid; rw [HX4.out, if_neg (by rw [hcon]; decide)]
            clear hcon
            go_wp2_with fail
            try simp only [Exit.inBlock, Exit.then]
            refine bodyPost_ret (results_cell_tmp2_row rfl _ _ g _ _ _ _ rfl hB0.put5.2 Tryz.underlying44 rfl (by kernel_rfl)) rfl ?_
            rw [HX5.out]
            exact ⟨⟨_, _, _, _, _, _, rfl, fun h => by cases h⟩, hN0.put5 (by omega)⟩
end Go.Proofs.YtpaacfoiiihbeaaGreat

-- TokT
set_option linter.unusedVariables false
set_option linter.unusedSimpArgs false
namespace Go.Proofs.YtpaacfoiiihbeaaGreat
open Go.RowKit

/-- all that lay lies, but for one block -/
structure Oth (b : Nat) (w w' : World) : Prop where
  os : w'.os = w.os
  tape : w'.tape = w.tape
  output : w'.output = w.output
  size : w.heap.size ≤ w'.heap.size
  block : ∀ k, k < w.heap.size → k ≠ b → w'.heap[k]? = w.heap[k]?
theorem Oth.refl (b : Nat) (w : World) : Oth b w w := ⟨rfl, rfl, rfl, Nat.le_refl _, fun _ _ _ => rfl⟩
theorem Oth.trans {b : Nat} {x y z : World} (h : Oth b x y) (k : Oth b y z) : Oth b x z :=
  ⟨k.os.trans h.os, k.tape.trans h.tape, k.output.trans h.output, Nat.le_trans h.size k.size, fun i hi hb => (k.block i (Nat.lt_of_lt_of_le hi h.size) hb).trans (h.block i hi hb)⟩
theorem Oth.nx {b : Nat} {w w' : World} (h : Nx w w') : Oth b w w' := ⟨h.os, h.tape, h.output, h.size, fun k hk _ => h.block k hk⟩
theorem Oth.set (w : World) (b i : Nat) (v : Value) : Oth b w (w.setCell ⟨b, i, none⟩ v) :=
  ⟨rfl, rfl, rfl, by simp [World.setCell], fun k _ hk => by simp only [World.setCell]; rw [Array.getElem?_modify, if_neg (fun e => hk e.symm)]⟩
theorem Oth.to {w w1 w' : World} {b : Nat} (h : Oth b w1 w') (hn : Nx w w1) (hb : w.heap.size ≤ b) : Nx w w' :=
  ⟨h.os.trans hn.os, h.tape.trans hn.tape, h.output.trans hn.output, Nat.le_trans hn.size h.size, fun k hk => (h.block k (Nat.lt_of_lt_of_le hk hn.size) (by omega)).trans (hn.block k hk)⟩
theorem Oth.blk {w w' : World} {b B g : Nat} {cs : Array Value} {T : TypeId} (h : Oth b w w') (k : Blk w B g cs T) (hg : g ≠ b) : Blk w' B g cs T :=
  ⟨k.1, by rw [h.block g k.lt hg]; exact k.2⟩
theorem Oth.maxC {w w' : World} {b : Nat} (h : Oth b w w') (hm : MaxC w) (hb : b ≠ 0) : MaxC w' := by
  obtain ⟨m, hm⟩ := hm
  refine ⟨m, ?_⟩
  have := h.block _ (World.block_lt_of_cell? w _ hm) (fun e => hb e.symm)
  rw [← hm]
  unfold World.cell?
  simp only
  rw [this]
/-- a block of its own that changed, and others -/
theorem Oth.mono {w w1 w' : World} {b : Nat} (h : Oth b w1 w') (hn : Nx w w1) : Oth b w w' := (Oth.nx hn).trans h
theorem Oth.put {w w' : World} {b g : Nat} (h : Oth b w w') (hg : w.heap.size ≤ g) (i : Nat) (v : Value) : Oth b w (w'.setCell ⟨g, i, none⟩ v) :=
  ⟨h.os, h.tape, h.output, by simp [World.setCell]; exact h.size, fun k hk hb => by simp only [World.setCell]; rw [Array.getElem?_modify, if_neg (by omega)]; exact h.block k hk hb⟩
theorem Oth.put5 {w w' : World} {b g : Nat} {v0 v1 v2 v3 v4 : Value} (h : Oth b w w') (hk : w.heap.size ≤ g) :
    Oth b w (((((w'.setCell ⟨g, 0, none⟩ v0).setCell ⟨g, 1, none⟩ v1).setCell ⟨g, 2, none⟩ v2).setCell ⟨g, 3, none⟩ v3).setCell ⟨g, 4, none⟩ v4) :=
  ((((h.put hk 0 v0).put hk 1 v1).put hk 2 v2).put hk 3 v3).put hk 4 v4
theorem Oth.own {w w' : World} {b i : Nat} {v : Value} (h : Oth b w w') : Oth b w (w'.setCell ⟨b, i, none⟩ v) := h.trans (Oth.set _ _ _ _)

def tokL (xs : List TokV) : List Value := xs.flatMap fun x => (tokC x).toList
theorem tokL_length (xs : List TokV) : (tokL xs).length = xs.length * 5 := by
  induction xs with
  | nil => rfl
  | cons x xs ih =>
    have : tokL (x :: xs) = (tokC x).toList ++ tokL xs := rfl
    rw [this, List.length_append, ih]
    simp [tokC]; omega
theorem tokL_snoc (xs : List TokV) (x : TokV) : tokL (xs ++ [x]) = tokL xs ++ (tokC x).toList := by
  unfold tokL; simp
theorem tokL_get (xs : List TokV) (i : Nat) (hi : i < xs.length) (j : Nat) (hj : j < 5) : (tokL xs)[i * 5 + j]? = (tokC xs[i])[j]? := by
  induction xs generalizing i with
  | nil => simp at hi
  | cons x xs ih =>
    have e : tokL (x :: xs) = (tokC x).toList ++ tokL xs := rfl
    have e5 : (tokC x).toList.length = 5 := rfl
    rw [e]
    cases i with
    | zero =>
      rw [List.getElem?_append_left (by omega), Nat.zero_mul, Nat.zero_add]
      simp
    | succ i =>
      rw [List.getElem?_append_right (by omega), e5]
      have : (i + 1) * 5 + j - 5 = i * 5 + j := by omega
      rw [this, ih i (by simpa using hi)]
      simp
theorem tokL_one (xs : List TokV) : ∀ u ∈ tokL xs, u.oneCell' = true := by
  intro u hu
  obtain ⟨x, _, hx⟩ := List.mem_flatMap.1 hu
  simp [tokC] at hx
  rcases hx with rfl | rfl | rfl | rfl | rfl <;> rfl

/-- what a call owns from block B on, as a list of words -/
def OwnT (w : World) (B : Nat) (v : Value) (xs : List TokV) : Prop := w.ownsRow B 44 5 v xs.length (tokL xs)
/-- the words behind an address -/
def RdT (w : World) (A : Option Addr) (xs : List TokV) : Prop :=
  0 < xs.length → ∃ g, A = some ⟨g, 0, none⟩ ∧ g < w.heap.size ∧ ∀ i (h : i < xs.length) j, j < 5 → w.cell? ⟨g, i * 5 + j, none⟩ = (tokC xs[i])[j]?
theorem OwnT.nil_ (w : World) (B : Nat) : OwnT w B (.slice none 0 0) [] := World.ownsRow_nil w B _ _
theorem OwnT.alloc {w : World} {B : Nat} {v : Value} {xs : List TokV} (h : OwnT w B v xs) (o : Obj) : OwnT (w.alloc o) B v xs := World.ownsRow.alloc h o
theorem OwnT.less {w : World} {B B' : Nat} {v : Value} {xs : List TokV} (h : OwnT w B v xs) (hB : B' ≤ B) : OwnT w B' v xs := by
  obtain ⟨h1, h2⟩ := h
  refine ⟨h1, ?_⟩
  rcases h2 with h2 | ⟨g, cap, cur, hv, hg, r⟩
  · exact .inl h2
  · exact .inr ⟨g, cap, cur, hv, by omega, r⟩
theorem OwnT.oth {w w' : World} {B b : Nat} {v : Value} {xs : List TokV} (h : OwnT w B v xs) (ho : Oth b w w') (hb : b < B) : OwnT w' B v xs := by
  obtain ⟨h1, h2⟩ := h
  refine ⟨h1, ?_⟩
  rcases h2 with h2 | ⟨g, cap, cur, hv, hg, hh, r⟩
  · exact .inl h2
  · refine .inr ⟨g, cap, cur, hv, hg, ?_, r⟩
    rw [ho.block g ?_ (by omega)]; exact hh
    rcases Nat.lt_or_ge g w.heap.size with h | h
    · exact h
    · rw [Array.getElem?_eq_none h] at hh; cases hh
theorem OwnT.nx {w w' : World} {B : Nat} {v : Value} {xs : List TokV} (h : OwnT w B v xs) (ho : Nx w w') : OwnT w' B v xs := by
  obtain ⟨h1, h2⟩ := h
  refine ⟨h1, ?_⟩
  rcases h2 with h2 | ⟨g, cap, cur, hv, hg, hh, r⟩
  · exact .inl h2
  · refine .inr ⟨g, cap, cur, hv, hg, ?_, r⟩
    rw [ho.block g ?_]; exact hh
    rcases Nat.lt_or_ge g w.heap.size with h | h
    · exact h
    · rw [Array.getElem?_eq_none h] at hh; cases hh
theorem OwnT.sl {w : World} {B : Nat} {v : Value} {xs : List TokV} (h : OwnT w B v xs) : ∃ A c, v = .slice A xs.length c ∧ xs.length ≤ c ∧ c ≤ maxLen ∧ RdT w A xs := by
  obtain ⟨h1, h2⟩ := h
  rcases h2 with ⟨rfl, h0⟩ | ⟨g, cap, cur, rfl, hg, hh, hn, hm, hs, ht⟩
  · have : xs = [] := List.eq_nil_of_length_eq_zero h0
    subst this
    exact ⟨none, 0, rfl, Nat.le_refl _, Nat.zero_le _, fun h => by simp at h⟩
  · refine ⟨_, cap, rfl, hn, hm, fun _ => ⟨g, rfl, ?_, fun i hi j hj => ?_⟩⟩
    · rcases Nat.lt_or_ge g w.heap.size with h | h
      · exact h
      · rw [Array.getElem?_eq_none h] at hh; cases hh
    · rw [cell_of_row w g (i * 5 + j) cur _ (0, 0) hh, ← tokL_get xs i hi j hj, ← ht, List.getElem?_take, if_pos (by omega)]
      simp
theorem RdT.nx {w w' : World} {A : Option Addr} {xs : List TokV} (h : RdT w A xs) (hn : Nx w w') : RdT w' A xs := fun h0 => by
  obtain ⟨g, e, hg, hc⟩ := h h0
  refine ⟨g, e, Nat.lt_of_lt_of_le hg hn.size, fun i hi j hj => ?_⟩
  rw [← hc i hi j hj]
  unfold World.cell?
  simp only
  rw [hn.block g hg]
theorem RdT.at_ {w : World} {A : Option Addr} {xs : List TokV} (h : RdT w A xs) (i : Nat) (hi : i < xs.length) : ∃ g, A = some ⟨g, 0, none⟩ ∧ g < w.heap.size ∧
    w.cell? ⟨g, i * 5 + 0, none⟩ = some (.int .i64 (xs[i].k : Nat)) ∧ w.cell? ⟨g, i * 5 + 1, none⟩ = some (.string ⟨xs[i].t.toArray⟩) ∧ w.cell? ⟨g, i * 5 + 2, none⟩ = some (.int .i64 xs[i].n) ∧
    w.cell? ⟨g, i * 5 + 3, none⟩ = some (.int .u64 (xs[i].d : Nat)) ∧ w.cell? ⟨g, i * 5 + 4, none⟩ = some (.int .i64 (xs[i].p : Nat)) := by
  obtain ⟨g, e, hg, hc⟩ := h (by omega)
  exact ⟨g, e, hg, hc i hi 0 (by decide), hc i hi 1 (by decide), hc i hi 2 (by decide), hc i hi 3 (by decide), hc i hi 4 (by decide)⟩

theorem info_tok : (Tryz.prog.info? 44).map (fun i => (i.zero, i.size, i.bytes)) = some (some (.agg #[.int .i64 0, .string ⟨#[]⟩, .int .i64 0, .int .u64 0, .int .i64 0]), 5, 48) := by kernel_rfl

section
variable (w : World) {ops : Array Oper} {rest : List Oper} {o : Oper} {a : Act} {Q : Exit → Act → World → Prop}
/-- append of one word onto what is owned -/
theorem wpList_appT (hgd : o.guard = none) (s x : Operand) (ho : o.op = .call { callee := .builtin .append, args := #[s, x], argTypes := #[23, 23] })
    (B : Nat) (v : Value) (xs : List TokV) (y : TokV) (hs : a.eval s = v) (hown : OwnT w B v xs) (g : Nat) (hx : a.eval x = .slice (some ⟨g, 0, none⟩) 1 1)
    (hy : ∀ j, j < 5 → w.cell? ⟨g, j, none⟩ = (tokC y)[j]?) (h63 : (xs.length : Int) ≤ 100000) (hB : B ≤ w.heap.size)
    (h : ∀ v' w', OwnT w' B v' (xs ++ [y]) → Below B w w' → (∀ k, k < w.heap.size → v.ownBlock ≠ some k → w'.heap[k]? = w.heap[k]?) → wpList Tryz.prog ops Q rest (a.put o.dst v') w') : wpList Tryz.prog ops Q (o :: rest) a w := by
  refine wpList_plain hgd fun K hK => ?_
  obtain ⟨i, hi, hz, h1, h2⟩ := info_parts info_tok
  have hcells : ∀ j u, ((tokC y).toList)[j]? = some u → w.cell? ((⟨g, 0, none⟩ : Addr).add j) = some u := by
    intro j u hu
    have hj : j < 5 := by
      rcases Nat.lt_or_ge j 5 with h | h
      · exact h
      · rw [List.getElem?_eq_none (by simpa [tokC] using h)] at hu; cases hu
    rw [Addr.add_lit, Nat.zero_add, hy j hj]
    rw [← hu]; simp
  have hone : ∀ u ∈ (tokC y).toList, u.oneCell' = true := by
    intro u hu
    simp [tokC] at hu
    rcases hu with rfl | rfl | rfl | rfl | rfl <;> rfl
  obtain ⟨v', w', hrun, ho', hg, _⟩ := run_append_own_at (P := Tryz.prog) w B 23 o.type 44 i _ 5 48 Tryz.underlying23 hi hz h1 h2 rfl (by decide) v xs.length (tokL xs) hown ⟨g, 0, none⟩ 1 1 (tokC y).toList rfl hcells hone (by simp [maxLen]; omega) (by omega) hB
  have hbel : Below B w w' := (Below.refl B w).grown hg hB fun k hk => (World.ownsRow.lt hown k hk).1
  have hown' : OwnT w' B v' (xs ++ [y]) := by
    unfold OwnT
    rw [List.length_append, tokL_snoc]
    exact ho'
  have := hK _ _ (h v' w' hown' hbel (fun k hk hne => hg.block k hk (Ne.symm hne)))
  unfold Oper.wp execOp
  simp only [ho, resolve, invoke, builtin, Sem.run_bind, Sem.run_pure, Result.andThen_ok, List.map_toArray, List.map_cons, List.map_nil, hs, hx, hrun]
  exact this
end
end Go.Proofs.YtpaacfoiiihbeaaGreat

-- TokI
set_option linter.unusedVariables false
set_option linter.unusedSimpArgs false
namespace Go.Proofs.YtpaacfoiiihbeaaGreat
open Go.RowKit

set_option maxRecDepth 100000 in
set_option maxHeartbeats 800000 in
theorem isNumber_any (k v p : Int) (t : ByteArray) (d : Int) (w : World) :
    Calls Tryz.prog 26 #[.agg #[.int .i64 k, .string t, .int .i64 v, .int .u64 d, .int .i64 p]] w fun e w' => e = .returned (.bool (decide (k = 2) || decide (k = 3))) ∧ Nx w w' := by
  go_enter Tryz.func26, Tryz.ntmps26
  go_wp2_with fail
  all_goals
    go_ret
    refine ⟨congrArg (fun b => Ending.returned (Value.bool b)) ?_, nx0 _ _⟩
    rw [Bool.eq_iff_iff]
    simp
    try omega

set_option maxRecDepth 100000 in
set_option maxHeartbeats 800000 in
theorem goesOn_any (s : ByteArray) (l : List UInt8) (w : World) (hl : Tx s l) :
    Calls Tryz.prog 27 #[.string s] w fun e w' => e = .returned (.bool (goesS l)) ∧ w' = w := by
  cases l with
  | nil =>
    have e1 := hl.nil.1
    clear hl
    go_enter Tryz.func27, Tryz.ntmps27
    go_wp2_with fail
    go_ret
    exact ⟨rfl, rfl⟩
  | cons c r =>
    obtain ⟨hp, t, e0, e1, ht, e2, e3⟩ := hl.cons
    clear hl ht
    go_enter Tryz.func27, Tryz.ntmps27
    go_wp2_with fail
    refine (isOfName_any c w).mono ?_; rintro e w' ⟨rfl, rfl⟩
    have hG : Hid (goesS (c :: r) = isNmS c) := rfl
    obtain ⟨b, hb⟩ : ∃ b, Hid (isNmS c = b) := ⟨_, rfl⟩
    rw [hb.out]
    go_wp2_with fail
    go_ret
    rw [hG.out, hb.out]
    exact ⟨by first | rfl | simp, rfl⟩

/-- a cursor: the text, the place -/
abbrev Cur (w : World) (b : Nat) (s : ByteArray) (o : Nat) : Prop := Blk w b b #[.string s, .int .i64 (o : Int)] 51

set_option maxRecDepth 100000 in
set_option maxHeartbeats 800000 in
theorem rest_any (b : Nat) (s : ByteArray) (l : List UInt8) (o : Nat) (w : World) (hB : Cur w b s o) (hl : Tx s l) (ho : o ≤ l.length) :
    Calls Tryz.prog 25 #[.pointer (some ⟨b, 0, none⟩)] w fun e w' => ∃ u, e = .returned (.string u) ∧ Hid (Tx u (l.drop o)) ∧ Nx w w' := by
  obtain ⟨u, hu, HU⟩ := hl.from_ o
  have hz : (o : Int) ≤ (s.size : Int) := by rw [hl.size]; omega
  have c0 : w.cell? ⟨b, 0, none⟩ = some (.string s) := hB.cell 0
  have c1 : w.cell? ⟨b, 1, none⟩ = some (.int .i64 (o : Int)) := hB.cell 1
  clear hl ho hB
  go_enter Tryz.func25, Tryz.ntmps25
  go_wp2_with fail
  go_quiet (fail)
  go_wp2_with fail
  go_ret
  exact ⟨u, rfl, HU, (Nx.refl w).dr _⟩

/-- the place of a cursor -/
def atOf (b : Nat) (w : World) : Nat := match w.cell? ⟨b, 1, none⟩ with
  | some (.int _ n) => n.toNat
  | _ => 0
theorem Cur.at_ {w : World} {b : Nat} {s : ByteArray} {o : Nat} (h : Cur w b s o) : atOf b w = o := by
  unfold atOf
  rw [show w.cell? ⟨b, 1, none⟩ = some (.int .i64 (o : Int)) from h.cell 1]
  simp

set_option maxRecDepth 100000 in
set_option maxHeartbeats 1600000 in
theorem skip_any (b : Nat) (s : ByteArray) (l : List UInt8) (o : Nat) (w : World) (hB : Cur w b s o) (hl : Tx s l) (ho : o ≤ l.length) (hs : (l.length : Int) ≤ 8000) (hm : MaxC w) (hb : b ≠ 0) :
    Calls Tryz.prog 23 #[.pointer (some ⟨b, 0, none⟩)] w fun e w' => e = .returned (.bool (skipS (l.drop o)).2) ∧ Cur w' b s (o + (skipS (l.drop o)).1) ∧ Oth b w w' := by
  have HL := Lib.hid hl
  have HM := Lib.hid hm
  have HB := Lib.hid hB
  obtain ⟨P, hP⟩ : ∃ P, Hid (skipS (l.drop o) = P) := ⟨_, rfl⟩
  rw [hP.out]
  obtain ⟨pn, pb⟩ := P
  clear hl hm hB
  go_enter Tryz.func23, Tryz.ntmps23
  go_wp2_with fail
  go_loopw [] (fun wr => ∃ n : Nat, Cur wr b s (o + n) ∧ o + n ≤ l.length ∧ Hid (pn = n + (skipS (l.drop (o + n))).1 ∧ (skipS (l.drop (o + n))).2 = pb) ∧ Oth b w wr) (fun wr => 10000 - atOf b wr)
  case atStart => exact ⟨0, HB.out, ho, by unfold Hid; simp [hP.out], Oth.refl _ _⟩
  case round =>
    obtain ⟨n, hC, hn, HS, ho⟩ := hrel
    obtain ⟨l1, hl1⟩ : ∃ l1, Hid (l.drop (o + n) = l1) := ⟨_, rfl⟩
    rw [hl1.out] at HS
    have hl1n : l1.length + (o + n) = l.length := by rw [← hl1.out]; simp; omega
    have hat := hC.at_
    have HC := Lib.hid hC
    have HO := Lib.hid ho
    obtain ⟨G, hG⟩ : ∃ G, Hid (gapS l1 = G) := ⟨_, rfl⟩
    obtain ⟨gn, gb⟩ := G
    have hgle := (gapS_le l1).1
    rw [hG.out] at hgle
    have hst := skipS_step l1
    rw [hG.out] at hst
    have HST := Lib.hid hst
    have HLE := Lib.hid hgle
    have hnI : (o : Int) + (n : Int) ≤ 8000 := by omega
    have hgI : (gn : Int) ≤ 8000 := by simp at hgle; omega
    clear hC ho hst hgle
    go_wp2_with fail
    refine (rest_any b s l (o + n) _ HC.out HL.out hn).mono ?_; rintro e w1 ⟨u, rfl, HU, hw1⟩
    rw [hl1.out] at HU
    have ho1 := HO.out.trans (Oth.nx hw1)
    have hC1 := HC.out.below hw1
    go_wp2_with fail
    refine (gap_any u l1 _ HU.out (by omega) (ho1.maxC HM.out hb)).mono ?_; rintro e w' ⟨rfl, rfl⟩
    rw [hG.out]
    by_cases h0 : gn = 0
    · subst h0
      have HF : Hid (skipS l1 = (0, gb)) := HST.out
      go_wp2_with fail
      go_ret
      have := HS.out
      rw [HF.out] at this
      obtain ⟨rfl, rfl⟩ := this
      exact ⟨rfl, hC1, ho1⟩
    · have b0 : ((gn : Int) == 0) = false := by rw [beq_eq_false_iff_ne]; omega
      have HF : Hid (skipS l1 = (gn + (skipS (l1.drop gn)).1, (skipS (l1.drop gn)).2)) := by unfold Hid; rw [HST.out, if_neg h0]
      have c1 : w'.cell? ⟨b, 1, none⟩ = some (.int .i64 ((o + n : Nat) : Int)) := hC1.cell 1
      have f1 := hC1.free 1
      have HG0 := Lib.hid h0
      clear h0
      go_wp2_with fail
      go_roundw
      case rel =>
        have hd : l.drop (o + (n + gn)) = l1.drop gn := by rw [← hl1.out, List.drop_drop]; congr 1; omega
        refine ⟨n + gn, ?_, ?_, ?_, ho1.own⟩
        · have e : ((o : Int) + (n : Int) + (gn : Int)) = ((o + (n + gn) : Nat) : Int) := by omega
          rw [e]
          exact hC1.put 1 _
        · have := HLE.out; omega
        · unfold Hid
          rw [hd]
          have h1 := HS.out
          rw [HF.out] at h1
          exact ⟨by rw [h1.1]; simp; omega, h1.2⟩
      case measure =>
        have e : ((o : Int) + (n : Int) + (gn : Int)) = ((o + (n + gn) : Nat) : Int) := by omega
        rw [e]
        have h1 : Cur (w'.setCell ⟨b, 1, none⟩ (.int .i64 ((o + (n + gn) : Nat) : Int))) b s (o + (n + gn)) := hC1.put 1 _
        rw [h1.at_, hat]
        have := HLE.out
        have := HG0.out
        omega

theorem Blk.put_4 {w : World} {B g : Nat} {T : TypeId} {a0 a1 a2 a3 a4 v : Value} (h : Blk w B g #[a0, a1, a2, a3, a4] T) : Blk (w.setCell ⟨g, 4, none⟩ v) B g #[a0, a1, a2, a3, v] T := h.put 4 v
theorem Blk.other5 {w : World} {B g k : Nat} {cs : Array Value} {T : TypeId} {v0 v1 v2 v3 v4 : Value} (h : Blk w B g cs T) (hk : k ≠ g) :
    Blk (((((w.setCell ⟨k, 0, none⟩ v0).setCell ⟨k, 1, none⟩ v1).setCell ⟨k, 2, none⟩ v2).setCell ⟨k, 3, none⟩ v3).setCell ⟨k, 4, none⟩ v4) B g cs T :=
  ((((h.other hk _ _).other hk _ _).other hk _ _).other hk _ _).other hk _ _
theorem numTok_is (x : TokV) (k : Int) (h : k = (x.k : Nat)) : (decide (k = 2) || decide (k = 3)) = numTok x := by
  subst h; unfold numTok; rw [Bool.eq_iff_iff]; simp; omega

theorem nameS_len (l : List UInt8) : (nameS l).2.2 ≤ l.length := by
  have := spanN_le isNmS l
  unfold nameS
  split
  · exact Nat.zero_le _
  · split
    · exact Nat.zero_le _
    · exact this
theorem numberS_len (l : List UInt8) : (numberS l).2.2 ≤ l.length := by
  have h1 := (hexN_le l).1
  have h2 := decN_le l
  unfold numberS
  split
  · exact h1
  · split
    · exact Nat.zero_le _
    · split <;> exact h2
theorem quotedS_len (q : UInt8) (r : List UInt8) : (quotedS q r).2.2 ≤ r.length + 1 := by
  have h1 := spanN_le (fun c => decide (c ≠ q)) r
  have h2 : quoteN q r ≤ r.length := h1
  unfold quotedS
  split
  · exact Nat.zero_le _
  · rename_i h
    dsimp only
    omega
theorem first_len (l : List UInt8) : (firstS l).2.2 ≤ l.length := by
  cases l with
  | nil => exact Nat.le_refl _
  | cons c r =>
    rw [show firstS (c :: r) = if isLetS c || decide (c.toNat = 95) then nameS (c :: r)
      else if isDig c || decide (c.toNat = 43) || decide (c.toNat = 45) || decide (c.toNat = 46) then numberS (c :: r)
      else if c.toNat = 34 ∨ c.toNat = 39 then quotedS c r
      else if signsL.contains c then (0, ⟨5, [c], 0, 0, 0⟩, 1) else (2, tok0, 0) from rfl]
    split
    · exact nameS_len _
    · split
      · exact numberS_len _
      · split
        · have := quotedS_len c r; simp; omega
        · split
          · simp
          · exact Nat.zero_le _

set_option maxRecDepth 100000 in
set_option maxHeartbeats 3200000 in
theorem next_any (b : Nat) (s : ByteArray) (l : List UInt8) (o : Nat) (w : World) (hB : Cur w b s o) (hl : Tx s l) (ho : o ≤ l.length) (hs : (l.length : Int) ≤ 8000) (hm : MaxC w) (hb : b ≠ 0) :
    Calls Tryz.prog 14 #[.pointer (some ⟨b, 0, none⟩)] w fun e w' => ∃ k t v d p, e = .returned (.tuple #[.agg #[.int .i64 k, .string t, .int .i64 v, .int .u64 d, .int .i64 p], .int .i64 ((nextS o (l.drop o)).1 : Nat)]) ∧
      ((nextS o (l.drop o)).1 ≠ 0 → Cur w' b s (nextS o (l.drop o)).2.1) ∧
      ((nextS o (l.drop o)).1 = 0 → #[.int .i64 k, .string t, .int .i64 v, .int .u64 d, .int .i64 p] = tokC (nextS o (l.drop o)).2.2.1 ∧ Cur w' b s (o + (nextS o (l.drop o)).2.2.2)) ∧ Oth b w w' := by
  obtain ⟨g, hg⟩ : ∃ g, w.heap.size = g := ⟨_, rfl⟩
  have hbg : b < g := by rw [← hg]; exact hB.lt
  have hB0 := Blk.new w #[.int .i64 0, .string ⟨#[]⟩, .int .i64 0, .int .u64 0, .int .i64 0] 44
  rw [hg] at hB0
  have hN0 : Nx w (w.alloc (Obj.cells #[.int .i64 0, .string ⟨#[]⟩, .int .i64 0, .int .u64 0, .int .i64 0] 44)) := nx0 _ _
  have HL := Lib.hid hl
  have hC0 := hB.below hN0
  have HM := Lib.hid (hm.nx hN0)
  obtain ⟨X, hX⟩ : ∃ X, Hid (nextS o (l.drop o) = X) := ⟨_, rfl⟩
  rw [hX.out]
  obtain ⟨xe, xat, xt, xn⟩ := X
  obtain ⟨P, hP⟩ : ∃ P, Hid (skipS (l.drop o) = P) := ⟨_, rfl⟩
  obtain ⟨pn, pb⟩ := P
  have hpn := skipS_le (l.drop o)
  rw [hP.out] at hpn
  have hop : o + pn ≤ l.length := by simp at hpn; omega
  have HX : Hid ((xe, xat, xt, xn) = if pb = false then (2, o + pn, tok0, 0)
    else if (wordS (l.drop (o + pn))).1 ≠ 0 then ((wordS (l.drop (o + pn))).1, o + pn + (wordS (l.drop (o + pn))).2.1, tok0, 0)
    else (0, 0, { (wordS (l.drop (o + pn))).2.2.1 with p := o + pn }, pn + (wordS (l.drop (o + pn))).2.2.2)) := by
    unfold Hid
    rw [← hX.out]
    unfold nextS
    rw [hP.out, List.drop_drop]
  obtain ⟨m, hmm⟩ : ∃ m, Hid (l.drop (o + pn) = m) := ⟨_, rfl⟩
  rw [hmm.out] at HX
  have hml : m.length ≤ l.length := by rw [← hmm.out]; simp
  clear hl hm hB hpn hX
  go_enter Tryz.func14, Tryz.ntmps14
  go_wp2_with fail
  generalize hW1 : World.alloc _ _ = w1 at *
  refine (skip_any b s l o w1 hC0 HL.out ho hs HM.out hb).mono ?_; rintro e w2 ⟨rfl, hC2, ho2⟩
  rw [hP.out] at hC2 ⊢
  dsimp only at hC2 ⊢
  have hT2 := ho2.blk hB0 (by omega)
  have hO2 := Oth.mono ho2 hN0
  have HM2 := Lib.hid (ho2.maxC HM.out hb)
  obtain ⟨c0, c1, c2, c3, c4, f0, f1, f2, f3, f4⟩ := cells5 hT2
  cases pb
  · have hx := HX.out
    rw [if_pos rfl] at hx
    simp only [Prod.mk.injEq] at hx
    obtain ⟨rfl, rfl, -, -⟩ := hx
    clear HX
    go_wp2_with fail
    refine bodyPost_ret (results_cell_tmp_row rfl _ _ g _ _ _ _ rfl hT2.put5.2 Tryz.underlying44 rfl (by kernel_rfl)) rfl ?_
    refine ⟨_, _, _, _, _, rfl, fun _ => ?_, fun h => by simp at h, hO2.put5 (by omega)⟩
    exact hC2.other5 (by omega)
  · have HX2 : Hid ((xe, xat, xt, xn) = if (wordS m).1 ≠ 0 then ((wordS m).1, o + pn + (wordS m).2.1, tok0, 0)
      else (0, 0, { (wordS m).2.2.1 with p := o + pn }, pn + (wordS m).2.2.2)) := by unfold Hid; rw [HX.out, if_neg (by simp)]
    have d1 : w2.cell? ⟨b, 1, none⟩ = some (.int .i64 ((o + pn : Nat) : Int)) := hC2.cell 1
    have HC2 := Lib.hid hC2
    clear HX hC2
    clear c0 c1 c2 c3 c4 f0 f1 f2 f3 f4
    go_wp2_with fail
    refine (rest_any b s l (o + pn) _ HC2.out HL.out hop).mono ?_; rintro e w3 ⟨u, rfl, HU, hw3⟩
    rw [hmm.out] at HU
    have hC3 := HC2.out.below hw3
    have hT3 := hT2.below hw3
    have hO3 := hO2.trans (Oth.nx hw3)
    go_wp2_with fail
    obtain ⟨F, hF⟩ : ∃ F, Hid (firstS m = F) := ⟨_, rfl⟩
    obtain ⟨fe, fx, fn⟩ := F
    have hW : wordS m = if fe ≠ 0 then (fe, 0, tok0, 0) else if numTok fx && goesS (m.drop fn) then (2, fn, tok0, 0) else (0, 0, fx, fn) := by unfold wordS; rw [hF.out]
    refine (first_any u m _ HU.out (by omega) (HM2.out.nx hw3)).mono ?_; rintro e w4 ⟨⟨k, t, v, d, p, n, rfl, hok⟩, hw4⟩
    rw [hF.out] at hok ⊢
    dsimp only at hok ⊢
    have hC4 := Lib.hid (hC3.below hw4)
    have hT4 := hT3.below hw4
    have hO4 := hO3.trans (Oth.nx hw4)
    have HW := Lib.hid hW
    have HOK := Lib.hid hok
    obtain ⟨c0, c1, c2, c3, c4, f0, f1, f2, f3, f4⟩ := cells5 hT4
    clear hW hok
    by_cases h0 : fe = 0
    · subst h0
      have HW2 : Hid (wordS m = if numTok fx && goesS (m.drop fn) then (2, fn, tok0, 0) else (0, 0, fx, fn)) := HW.out
      obtain ⟨hcs, rfl⟩ := HOK.out rfl
      obtain ⟨fk, ft, fv, fd, fp⟩ := fx
      unfold tokC at hcs
      simp at hcs
      obtain ⟨rfl, rfl, rfl, rfl, rfl⟩ := hcs
      have d1 : w4.cell? ⟨b, 1, none⟩ = some (.int .i64 ((o + pn : Nat) : Int)) := hC4.out.cell 1
      have fb1 := hC4.out.free 1
      have hfn := first_len m
      rw [hF.out] at hfn
      dsimp only at hfn
      have hopn : o + pn + fn ≤ l.length := by
        have : m.length = l.length - (o + pn) := by rw [← hmm.out]; simp
        omega
      have hfnI : (o : Int) + (pn : Int) + (fn : Int) ≤ 8000 := by omega
      have hdm : Hid (l.drop (o + pn + fn) = m.drop fn) := by unfold Hid; rw [← hmm.out, List.drop_drop]
      obtain ⟨nb, hnb⟩ : ∃ nb, Hid ((decide ((fk : Int) = 2) || decide ((fk : Int) = 3)) = nb) := ⟨_, rfl⟩
      have hnt : numTok ⟨fk, ft, v, fd, fp⟩ = nb := by rw [← hnb.out]; exact (numTok_is ⟨fk, ft, v, fd, fp⟩ fk rfl).symm
      rw [hnt] at HW2
      clear hnt hfn
      go_wp2_with fail
      generalize hW5 : World.setCell _ _ _ = w5
      have hT5 : Blk w5 g g #[.int .i64 (fk : Nat), .string ⟨ft.toArray⟩, .int .i64 v, .int .u64 (fd : Nat), .int .i64 (fp : Nat)] 44 := by rw [← hW5]; exact hT4.put5.other (by omega) _ _
      have hC5 : Cur w5 b s (o + pn + fn) := by
        rw [← hW5]
        have e : ((o : Int) + (pn : Int) + (fn : Int)) = ((o + pn + fn : Nat) : Int) := by omega
        rw [e]
        exact (hC4.out.other5 (by omega)).put 1 _
      have hO5 : Oth b w w5 := by rw [← hW5]; exact (hO4.put5 (by omega)).own
      clear hW5 c0 c1 c2 c3 c4 f0 f1 f2 f3 f4 d1 fb1
      refine (isNumber_any _ _ _ _ _ w5).mono ?_; rintro e w6 ⟨rfl, hw6⟩
      rw [hnb.out]
      have hT6 := hT5.below hw6
      have hC6 := Lib.hid (hC5.below hw6)
      have hO6 := hO5.trans (Oth.nx hw6)
      cases nb
      · have HW3 : Hid (wordS m = (0, 0, ⟨fk, ft, v, fd, fp⟩, fn)) := HW2
        have hx := HX2.out
        rw [HW3.out, if_neg (by simp)] at hx
        simp only [Prod.mk.injEq] at hx
        obtain ⟨rfl, rfl, rfl, rfl⟩ := hx
        obtain ⟨c0, c1, c2, c3, c4, f0, f1, f2, f3, f4⟩ := cells5 hT6
        clear HX2
        go_wp2_with fail
        refine bodyPost_ret (results_cell_tmp_row rfl _ _ g _ _ _ _ rfl hT6.put_4.put5.2 Tryz.underlying44 rfl (by kernel_rfl)) rfl ?_
        refine ⟨_, _, _, _, _, rfl, ⟨by simp [tokC], ?_⟩, (hO6.put (by omega) _ _).put5 (by omega)⟩
        rw [show o + (pn + fn) = o + pn + fn by omega]
        exact (hC6.out.other (by omega) _ _).other5 (by omega)
      · have HW3 : Hid (wordS m = if goesS (m.drop fn) then (2, fn, tok0, 0) else (0, 0, ⟨fk, ft, v, fd, fp⟩, fn)) := by unfold Hid; rw [HW2.out, Bool.true_and]
        go_wp2_with fail
        refine (rest_any b s l (o + pn + fn) _ hC6.out HL.out hopn).mono ?_; rintro e w7 ⟨u7, rfl, HU7, hw7⟩
        rw [hdm.out] at HU7
        have hT7 := hT6.below hw7
        have hC7 := Lib.hid (hC6.out.below hw7)
        have hO7 := hO6.trans (Oth.nx hw7)
        go_wp2_with fail
        refine (goesOn_any u7 _ _ HU7.out).mono ?_; rintro e w8 ⟨rfl, rfl⟩
        obtain ⟨gb, hgb⟩ : ∃ gb, Hid (goesS (m.drop fn) = gb) := ⟨_, rfl⟩
        rw [hgb.out] at HW3 ⊢
        obtain ⟨c0, c1, c2, c3, c4, f0, f1, f2, f3, f4⟩ := cells5 hT7
        cases gb
        · have HW4 : Hid (wordS m = (0, 0, ⟨fk, ft, v, fd, fp⟩, fn)) := HW3
          have hx := HX2.out
          rw [HW4.out, if_neg (by simp)] at hx
          simp only [Prod.mk.injEq] at hx
          obtain ⟨rfl, rfl, rfl, rfl⟩ := hx
          clear HX2
          go_wp2_with fail
          refine bodyPost_ret (results_cell_tmp_row rfl _ _ g _ _ _ _ rfl hT7.put_4.put5.2 Tryz.underlying44 rfl (by kernel_rfl)) rfl ?_
          refine ⟨_, _, _, _, _, rfl, ⟨by simp [tokC], ?_⟩, (hO7.put (by omega) _ _).put5 (by omega)⟩
          rw [show o + (pn + fn) = o + pn + fn by omega]
          exact (hC7.out.other (by omega) _ _).other5 (by omega)
        · have HW4 : Hid (wordS m = (2, fn, tok0, 0)) := HW3
          have hx := HX2.out
          rw [HW4.out, if_pos (by simp)] at hx
          simp only [Prod.mk.injEq] at hx
          obtain ⟨rfl, rfl, rfl, rfl⟩ := hx
          clear HX2
          go_wp2_with fail
          refine bodyPost_ret (results_cell_tmp_row rfl _ _ g _ _ _ _ rfl hT7.put5.2 Tryz.underlying44 rfl (by kernel_rfl)) rfl ?_
          exact ⟨_, _, _, _, _, rfl, fun _ => hC7.out.other5 (by omega), fun h => by simp at h, hO7.put5 (by omega)⟩
    · have HW2 : Hid (wordS m = (fe, 0, tok0, 0)) := by unfold Hid; rw [HW.out, if_pos h0]
      have hx := HX2.out
      rw [HW2.out, if_pos h0] at hx
      simp only [Prod.mk.injEq] at hx
      obtain ⟨rfl, rfl, -, -⟩ := hx
      have b0 : ((xe : Int) != 0) = true := by simp; omega
      have H0 := Lib.hid h0
      clear HX2
      go_wp2_with fail
      refine bodyPost_ret (results_cell_tmp_row rfl _ _ g _ _ _ _ rfl hT4.put5.put5.2 Tryz.underlying44 rfl (by kernel_rfl)) rfl ?_
      refine ⟨_, _, _, _, _, rfl, fun _ => ?_, fun h => absurd h H0.out, (hO4.put5 (by omega)).put5 (by omega)⟩
      exact (hC4.out.other5 (by omega)).other5 (by omega)
end Go.Proofs.YtpaacfoiiihbeaaGreat

-- TokJ
set_option linter.unusedVariables false
set_option linter.unusedSimpArgs false
namespace Go.Proofs.YtpaacfoiiihbeaaGreat
open Go.RowKit

theorem first_pos (l : List UInt8) (h : (firstS l).1 = 0) (h6 : (firstS l).2.1.k ≠ 6) : 1 ≤ (firstS l).2.2 := by
  cases l with
  | nil => exact absurd rfl h6
  | cons c r =>
    have e : firstS (c :: r) = if isLetS c || decide (c.toNat = 95) then nameS (c :: r)
      else if isDig c || decide (c.toNat = 43) || decide (c.toNat = 45) || decide (c.toNat = 46) then numberS (c :: r)
      else if c.toNat = 34 ∨ c.toNat = 39 then quotedS c r
      else if signsL.contains c then (0, ⟨5, [c], 0, 0, 0⟩, 1) else (2, tok0, 0) := rfl
    rw [e] at h ⊢
    split at h
    · rename_i h1
      rw [if_pos h1]
      have h2 : 1 ≤ spanN isNmS (c :: r) := by
        unfold spanN
        rw [if_pos]
        · omega
        · unfold isNmS
          simp at h1 ⊢
          rcases h1 with h1 | h1
          · simp [h1]
          · simp [h1]
      unfold nameS at h ⊢
      split at h
      · cases h
      · rename_i h3
        rw [if_neg h3]
        split at h
        · cases h
        · rename_i h4
          rw [if_neg h4]
          exact h2
    · rename_i h1
      rw [if_neg h1]
      split at h
      · rename_i h2
        rw [if_pos h2]
        have h3 := (hexN_le (c :: r)).2.1
        unfold numberS at h ⊢
        split at h
        · rename_i h4
          rw [if_pos h4]
          have := h3 h4
          dsimp only
          omega
        · rename_i h4
          rw [if_neg h4]
          split at h
          · cases h
          · rename_i h5
            rw [if_neg h5]
            split
            · dsimp only; omega
            · dsimp only; omega
      · rename_i h2
        rw [if_neg h2]
        split at h
        · rename_i h3
          rw [if_pos h3]
          unfold quotedS at h ⊢
          split at h
          · cases h
          · rename_i h4
            rw [if_neg h4]
            dsimp only; omega
        · rename_i h3
          rw [if_neg h3]
          split at h
          · rename_i h4
            rw [if_pos h4]
            exact Nat.le_refl _
          · cases h
theorem word_ok (l : List UInt8) (h : (wordS l).1 = 0) : wordS l = (0, 0, (firstS l).2.1, (firstS l).2.2) ∧ (firstS l).1 = 0 := by
  unfold wordS at h ⊢
  split at h
  · rename_i h1; exact absurd h h1
  · rename_i h1
    rw [if_neg h1]
    split at h
    · cases h
    · rename_i h2
      rw [if_neg h2]
      exact ⟨rfl, by simpa using h1⟩
theorem next_len (o : Nat) (l : List UInt8) (h : (nextS o l).1 = 0) : (nextS o l).2.2.2 ≤ l.length ∧ ((nextS o l).2.2.1.k ≠ 6 → 1 ≤ (nextS o l).2.2.2) ∧ (nextS o l).2.1 = 0 := by
  have hs := skipS_le l
  unfold nextS at h ⊢
  split at h
  · cases h
  · rename_i h1
    rw [if_neg h1]
    split at h
    · rename_i h2; exact absurd h h2
    · rename_i h2
      rw [if_neg h2]
      have hw := word_ok (l.drop (skipS l).1) (by simpa using h2)
      have hl := first_len (l.drop (skipS l).1)
      rw [hw.1]
      dsimp only
      refine ⟨by simp at hl; omega, fun h6 => ?_, rfl⟩
      have := first_pos _ hw.2 h6
      omega

def cat (acc : List TokV) (r : List TokV × Nat × Nat) : List TokV × Nat × Nat := if r.2.1 ≠ 0 then r else (acc ++ r.1, 0, 0)
theorem cat_nil (r : List TokV × Nat × Nat) (h : r.2.1 = 0 → r.2.2 = 0) : cat [] r = r := by
  unfold cat
  split
  · rfl
  · rename_i h1
    obtain ⟨a, b, c⟩ := r
    have hb : b = 0 := by simpa using h1
    subst hb
    have := h rfl
    dsimp only at this
    subst this
    rfl
theorem lexF_zero (f o : Nat) (l : List UInt8) : (lexF f o l).2.1 = 0 → (lexF f o l).2.2 = 0 := by
  induction f generalizing o l with
  | zero => intro _; rfl
  | succ f ih =>
    unfold lexF
    split
    · rename_i h; intro h2; exact absurd h2 h
    · split
      · intro _; rfl
      · split
        · intro h2; rename_i h3; exact absurd h2 h3
        · intro _; rfl
theorem lexF_err (f o : Nat) (l : List UInt8) (h : (nextS o l).1 ≠ 0) : lexF (f + 1) o l = ([], (nextS o l).1, (nextS o l).2.1) := by
  conv => lhs; unfold lexF
  rw [if_pos h]
theorem lexF_end (f o : Nat) (l : List UInt8) (h : (nextS o l).1 = 0) (h6 : (nextS o l).2.2.1.k = 6) : lexF (f + 1) o l = ([(nextS o l).2.2.1], 0, 0) := by
  conv => lhs; unfold lexF
  rw [if_neg (by simpa using h), if_pos h6]
theorem lexF_more (f o : Nat) (l : List UInt8) (h : (nextS o l).1 = 0) (h6 : (nextS o l).2.2.1.k ≠ 6) (acc : List TokV) :
    cat acc (lexF (f + 1) o l) = cat (acc ++ [(nextS o l).2.2.1]) (lexF f (o + (nextS o l).2.2.2) (l.drop (nextS o l).2.2.2)) := by
  conv => lhs; unfold lexF
  rw [if_neg (by simpa using h), if_neg h6]
  generalize lexF f (o + (nextS o l).2.2.2) (l.drop (nextS o l).2.2.2) = r
  unfold cat
  by_cases h0 : r.2.1 ≠ 0
  · simp [h0]
  · rw [if_neg h0, if_neg h0]
    simp

theorem cell_newT {w : World} {cs : Array Value} {T : TypeId} {g j : Nat} (hg : g = w.heap.size) : (w.alloc (.cells cs T)).cell? ⟨g, j, none⟩ = cs[j]? := by
  subst hg; exact (Blk.new w cs T).cell j

theorem own_ne {w : World} {B : Nat} {v : Value} {xs : List TokV} (h : OwnT w B v xs) : v.ownBlock ≠ some w.heap.size := fun e => by
  have := World.ownsRow.lt h _ e
  omega

theorem Oth.bel {b B : Nat} {x y z : World} (h : Oth b x y) (hz : x.heap.size ≤ B) (hb : Below B y z) : Oth b x z :=
  ⟨hb.os.trans h.os, hb.tape.trans h.tape, hb.output.trans h.output, Nat.le_trans h.size hb.size, fun k hk hkb => (hb.block k (Nat.lt_of_lt_of_le hk hz)).trans (h.block k hk hkb)⟩
theorem Blk.bel {w w' : World} {C B g : Nat} {cs : Array Value} {T : TypeId} (h : Blk w B g cs T) (hb : Below C w w') (hg : g < C) : Blk w' B g cs T := ⟨h.1, by rw [hb.block g hg]; exact h.2⟩

set_option maxRecDepth 100000 in
set_option maxHeartbeats 3200000 in
theorem lex_any (s : ByteArray) (l : List UInt8) (w : World) (hl : Tx s l) (hs : (l.length : Int) ≤ 140737488355328) (hm : MaxC w) :
    Calls Tryz.prog 7 #[.string s] w fun e w' => ∃ v, e = .returned (.tuple #[v, .int .i64 ((lexS l).2.1 : Nat), .int .i64 ((lexS l).2.2 : Nat)]) ∧ OwnT w' w.heap.size v (lexS l).1 ∧ Nx w w' := by
  have HL := Lib.hid hl
  have hz : (s.size : Int) = (l.length : Int) := by rw [hl.size]
  obtain ⟨R, hR⟩ : ∃ R, Hid (lexS l = R) := ⟨_, rfl⟩
  rw [hR.out]
  by_cases hlong : 2000 < l.length
  · have g1 : decide ((2000 : Int) < (l.length : Int)) = true := decide_eq_true (by omega)
    have hr : R = ([], 4, 0) := by rw [← hR.out]; unfold lexS; rw [if_pos hlong]
    subst hr
    clear hl hlong
    go_enter Tryz.func7, Tryz.ntmps7
    go_wp2_with fail
    go_ret3
    exact ⟨_, rfl, OwnT.nil_ _ _, Nx.refl _⟩
  · have g1 : decide ((2000 : Int) < (l.length : Int)) = false := decide_eq_false (by omega)
    have hs2 : (l.length : Int) ≤ 2000 := by omega
    have HR : Hid (lexF (l.length + 1) 0 l = R) := by unfold Hid; rw [← hR.out]; unfold lexS; rw [if_neg hlong]
    obtain ⟨b, hb⟩ : ∃ b, w.heap.size = b := ⟨_, rfl⟩
    have hbm : b ≠ 0 := by
      obtain ⟨m, hmm⟩ := hm
      have := World.block_lt_of_cell? w _ hmm
      intro e
      rw [← hb] at e
      exact absurd this (by simp only; omega)
    have hB0 := Blk.new w #[.string s, .int .i64 0] 51
    rw [hb] at hB0
    have hN0 : Nx w (w.alloc (Obj.cells #[.string s, .int .i64 0] 51)) := nx0 _ _
    have HM := Lib.hid (hm.nx hN0)
    have hsz : (w.alloc (Obj.cells #[.string s, .int .i64 0] 51)).heap.size = b + 1 := by simp [hb]
    clear hl hlong hm
    go_enter Tryz.func7, Tryz.ntmps7
    go_wp2_with fail
    generalize hW1 : World.alloc _ _ = w1 at *
    go_loopw [2] (fun lv wr => ∃ (o f : Nat) (acc : List TokV), OwnT wr (b + 1) lv acc ∧ Cur wr b s o ∧ o ≤ l.length ∧ Hid (R = cat acc (lexF f o (l.drop o))) ∧ l.length - o < f ∧ acc.length ≤ o ∧ Oth b w1 wr) (fun _ wr => 10000 - atOf b wr)
    case atStart => exact ⟨0, l.length + 1, [], OwnT.nil_ _ _, hB0, Nat.zero_le _, by unfold Hid; rw [List.drop_zero, cat_nil _ (lexF_zero _ _ _)]; exact HR.out.symm, by omega, Nat.zero_le _, Oth.refl _ _⟩
    case round =>
      obtain ⟨o, f, acc, hown, hC, ho, HS, hf, hacc, hO⟩ := hrel
      obtain ⟨f, rfl⟩ : ∃ k, f = k + 1 := ⟨f - 1, by omega⟩
      obtain ⟨X, hX⟩ : ∃ X, Hid (nextS o (l.drop o) = X) := ⟨_, rfl⟩
      have hnl := next_len o (l.drop o)
      have hE := lexF_err f o (l.drop o)
      have hD := lexF_end f o (l.drop o)
      have hMo := fun h h6 => lexF_more f o (l.drop o) h h6 acc
      rw [hX.out] at hnl hE hD hMo
      obtain ⟨xe, xat, xt, xn⟩ := X
      dsimp only at hnl hE hD hMo
      have HE := Lib.hid hE
      have HD := Lib.hid hD
      have HMo := Lib.hid hMo
      have HNL := Lib.hid hnl
      have hat := hC.at_
      have HC := Lib.hid hC
      have HOWN := Lib.hid hown
      have HO := Lib.hid hO
      clear hE hD hMo hnl hC hown hO
      go_wp2_with fail
      refine (next_any b s l o _ HC.out HL.out ho (by omega) (HO.out.maxC HM.out hbm) hbm).mono ?_; rintro e w2 ⟨k, t, v, d, p, rfl, h1, h2, ho2⟩
      rw [hX.out] at h1 h2 ⊢
      dsimp only at h1 h2 ⊢
      have hO2 := HO.out.trans ho2
      have hown2 := HOWN.out.oth ho2 (by omega)
      by_cases he : xe = 0
      · subst he
        obtain ⟨hcs, hC2⟩ := h2 rfl
        obtain ⟨hn1, hn2, hn3⟩ := HNL.out rfl
        rw [List.length_drop] at hn1
        obtain ⟨fk, ft, fv, fd, fp⟩ := xt
        unfold tokC at hcs
        simp at hcs
        obtain ⟨rfl, rfl, rfl, rfl, rfl⟩ := hcs
        have hsz2 : b + 1 ≤ w2.heap.size := by have := hO2.size; omega
        have hal : (acc.length : Int) ≤ 100000 := by omega
        clear h1 h2
        by_cases h6 : fk = 6
        · subst h6
          have HRS : Hid (R = (acc ++ [⟨6, ft, v, fd, fp⟩], 0, 0)) := by unfold Hid; rw [HS.out, HD.out rfl rfl]; rfl
          go_wp2_with (at_builtin; go_must (refine wpList_appT _ rfl _ _ rfl (b + 1) _ acc ⟨6, ft, v, fd, fp⟩ rfl ((hown2.alloc _).alloc _) _ rfl (fun j hj => cell_newT (by simp)) hal (by simp; omega) ?_; intro v3 w3 hown3 hbel3 hold3; have c0 : w3.cell? ⟨w2.heap.size, 0, none⟩ = some (.int .i64 (6 : Int)) := (World.cell?_of_block (hold3 w2.heap.size (by simp; omega) (own_ne hown2))).trans (((Blk.new w2 _ _).alloc _).cell 0)))
          go_ret3
          rw [HRS.out]
          refine ⟨_, rfl, hown3.less (by omega), ?_⟩
          exact Oth.to ((hO2.trans (Oth.nx (nxa (nx0 w2 _) _))).bel (Nat.le_of_eq hsz) hbel3) hN0 (by omega)
        · have h6b : ((fk : Int) == 6) = false := by rw [beq_eq_false_iff_ne]; omega
          have HRS : Hid (R = cat (acc ++ [⟨fk, ft, v, fd, fp⟩]) (lexF f (o + xn) (l.drop (o + xn)))) := by unfold Hid; rw [HS.out, HMo.out rfl h6, List.drop_drop]
          go_wp2_with (at_builtin; go_must (refine wpList_appT _ rfl _ _ rfl (b + 1) _ acc ⟨fk, ft, v, fd, fp⟩ rfl ((hown2.alloc _).alloc _) _ rfl (fun j hj => cell_newT (by simp)) hal (by simp; omega) ?_; intro v3 w3 hown3 hbel3 hold3; have c0 : w3.cell? ⟨w2.heap.size, 0, none⟩ = some (.int .i64 ((fk : Nat) : Int)) := (World.cell?_of_block (hold3 w2.heap.size (by simp; omega) (own_ne hown2))).trans (((Blk.new w2 _ _).alloc _).cell 0)))
          go_roundw
          case rel =>
            exact ⟨o + xn, f, acc ++ [⟨fk, ft, v, fd, fp⟩], hown3, ((hC2.alloc _).alloc _).bel hbel3 (by omega), by omega, HRS, by have := hn2 h6; omega, by have := hn2 h6; simp; omega, (hO2.trans (Oth.nx (nxa (nx0 w2 _) _))).bel (Nat.le_of_eq hsz) hbel3⟩
          case measure =>
            have hC3 := ((hC2.alloc (.cells #[.int .i64 (fk : Nat), .string ⟨ft.toArray⟩, .int .i64 v, .int .u64 (fd : Nat), .int .i64 (fp : Nat)] 44)).alloc (.cells #[.int .i64 (fk : Nat), .string ⟨ft.toArray⟩, .int .i64 v, .int .u64 (fd : Nat), .int .i64 (fp : Nat)] 44)).bel hbel3 (by omega)
            have := Cur.at_ hC3
            have := hn2 h6
            omega
      · have hC2 := h1 he
        have HRS : Hid (R = ([], xe, xat)) := by unfold Hid; rw [HS.out, HE.out he]; unfold cat; rw [if_pos he]
        have b0 : ((xe : Int) != 0) = true := by simp; omega
        have hsz2 : b + 1 ≤ w2.heap.size := by have := hO2.size; omega
        have hN2 : Nx w w2 := Oth.to hO2 hN0 (by omega)
        clear h1 h2
        go_wp2_with fail
        generalize hW3 : World.alloc _ _ = w3
        have c1 : w3.cell? ⟨b, 1, none⟩ = some (.int .i64 (xat : Int)) := by rw [← hW3]; exact (hC2.alloc _).cell 1
        have hN3 : Nx w w3 := by rw [← hW3]; exact hN2.al _
        clear hW3
        go_quiet (fail)
        go_wp2_with fail
        go_ret3
        rw [HRS.out]
        exact ⟨_, rfl, OwnT.nil_ _ _, hN3.dr _⟩
end Go.Proofs.YtpaacfoiiihbeaaGreat

-- TokK
set_option linter.unusedVariables false
set_option linter.unusedSimpArgs false
namespace Go.Proofs.YtpaacfoiiihbeaaGreat
open Go.RowKit

theorem lex_begun1 : lexS [97, 32, 61, 32, 49] = ([⟨1, [97], 0, 0, 0⟩, ⟨5, [61], 0, 0, 2⟩, ⟨2, [], 1, 0, 4⟩, ⟨6, [], 0, 0, 5⟩], 0, 0) := by
  have h : (lexS [97, 32, 61, 32, 49]).2 = (0, 0) ∧ (lexS [97, 32, 61, 32, 49]).1.map (fun t => (t.k, t.t, t.n, t.d, t.p)) = [(1, [97], 0, 0, 0), (5, [61], 0, 0, 2), (2, [], 1, 0, 4), (6, [], 0, 0, 5)] := by decide +kernel
  obtain ⟨h1, h2⟩ := h
  generalize lexS [97, 32, 61, 32, 49] = R at *
  obtain ⟨ts, r⟩ := R
  dsimp only at h1 h2
  subst h1
  match ts, h2 with
  | [⟨_, _, _, _, _⟩, ⟨_, _, _, _, _⟩, ⟨_, _, _, _, _⟩, ⟨_, _, _, _, _⟩], h2 =>
    simp at h2
    simp [h2]
theorem lex_begun2 : (lexS [97, 32, 63]).2 = (2, 2) := by decide +kernel

set_option maxRecDepth 100000 in
set_option maxHeartbeats 1600000 in
theorem begun_any (w : World) (hm : MaxC w) :
    Calls Tryz.prog 6 #[] w fun e w' => e = .returned (.bool true) ∧ Nx w w' := by
  go_enter Tryz.func6, Tryz.ntmps6
  have HM := Lib.hid hm
  clear hm
  go_wp2_with fail
  refine (lex_any ⟨#[97, 32, 61, 32, 49]⟩ [97, 32, 61, 32, 49] w rfl (by decide) HM.out).mono ?_; rintro e w1 ⟨v1, rfl, hv1, hw1⟩
  rw [lex_begun1] at hv1 ⊢
  dsimp only at hv1 ⊢
  obtain ⟨A, c, rfl, hc1, hc2, hr⟩ := hv1.sl
  go_wp2_with fail
  refine (lex_any ⟨#[97, 32, 63]⟩ [97, 32, 63] w1 rfl (by decide) (HM.out.nx hw1)).mono ?_; rintro e w2 ⟨v2, rfl, hv2, hw2⟩
  rw [lex_begun2]
  have hr2 := hr.nx hw2
  obtain ⟨g, rfl, hg, -, -, a2, -, -⟩ := hr2.at_ 2 (by decide)
  obtain ⟨g', e, -, a3, -, -, -, -⟩ := hr2.at_ 3 (by decide)
  injection e with e
  injection e with e
  subst e
  have b2 : w2.cell? ⟨g, 12, none⟩ = some (.int .i64 1) := a2
  have b3 : w2.cell? ⟨g, 15, none⟩ = some (.int .i64 6) := a3
  clear hr hr2 a2 a3 hv1 hv2
  dsimp only [List.length] at *
  have hc3 : (4 : Int) ≤ (c : Int) := by simp at hc1; omega
  go_wp2_with fail
  go_ret
  exact ⟨rfl, Nx.trans hw1 hw2⟩
end Go.Proofs.YtpaacfoiiihbeaaGreat
