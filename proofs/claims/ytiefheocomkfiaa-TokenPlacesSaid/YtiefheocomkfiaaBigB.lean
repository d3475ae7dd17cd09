/- The contracts of big: a row that the call makes and writes; order, sums, differences. -/
import Derived.Test.YtiefheocomkfiaaBigA
import Derived.Test.YtiefheocomkfiaaHyb
namespace Go.Proofs.Ytiefheocomkfiaa
open Go.RowKit

/-- a row of words that the call may write, from block B on -/
structure Row (w : World) (B g off cap : Nat) (xs : List UInt32) : Prop where
  hB : B ≤ g
  hg : g < w.heap.size
  hn : xs.length ≤ cap
  hm : cap ≤ maxLen
  hs : ∀ j, j < cap → (w.cell? ⟨g, off + j, none⟩).isSome = true ∧ w.frozen? ⟨g, off + j, none⟩ = false
  hc : ∀ j (h : j < xs.length), w.cell? ⟨g, off + j, none⟩ = some (uv xs[j])

theorem Row.rd {w : World} {B g off cap : Nat} {xs : List UInt32} (h : Row w B g off cap xs) : Rd uv w (some ⟨g, off, none⟩) xs := fun _ => ⟨g, off, rfl, h.hg, h.hc⟩
theorem Row.gen {w : World} {B g off cap : Nat} {xs : List UInt32} (h : Row w B g off cap xs) : OwnG uv w B (.slice (some ⟨g, off, none⟩) xs.length cap) xs := .inr ⟨g, off, cap, rfl, h.hB, h.hg, h.hn, h.hm, h.hs, h.hc⟩
theorem Row.of_gen {w : World} {B g off cap n : Nat} {xs : List UInt32} (h : OwnG uv w B (.slice (some ⟨g, off, none⟩) n cap) xs) : Row w B g off cap xs := by
  rcases h with ⟨h, _⟩ | ⟨g', off', cap', h1, h2, h3, h4, h5, h6, h7⟩
  · cases h
  · injection h1 with e1 e2 e3; injection e1 with e1; injection e1 with e4 e5; subst e4 e5 e3; exact ⟨h2, h3, h4, h5, h6, h7⟩
theorem Row.below {w w' : World} {B g off cap : Nat} {xs : List UInt32} (h : Row w B g off cap xs) (hb : Below w.heap.size w w') : Row w' B g off cap xs := Row.of_gen (h.gen.below hb)
theorem Row.less {w : World} {B B' g off cap : Nat} {xs : List UInt32} (h : Row w B g off cap xs) (hB : B' ≤ B) : Row w B' g off cap xs := { h with hB := Nat.le_trans hB h.hB }
theorem Row.set_ {w : World} {B g off cap i : Nat} {xs : List UInt32} {y : UInt32} (h : Row w B g off cap xs) (hi : i < xs.length) : Row (w.setCell ⟨g, off + i, none⟩ (uv y)) B g off cap (xs.set i y) :=
  Row.of_gen (h.gen.set_ hi)
theorem Row.drew {w : World} {B g off cap : Nat} {xs : List UInt32} (h : Row w B g off cap xs) : Row w.drew B g off cap xs := ⟨h.hB, h.hg, h.hn, h.hm, h.hs, h.hc⟩
theorem Row.cell {w : World} {B g off cap : Nat} {xs : List UInt32} (h : Row w B g off cap xs) {i a : Nat} (hi : i < xs.length) (ha : Hid (ent xs i = a)) : w.cell? ⟨g, off + i, none⟩ = some (.int .u32 (a : Int)) := by
  rw [h.hc i hi, ← ha.out, uv, ent, List.getD, List.getElem?_eq_getElem hi]; rfl
theorem Row.free {w : World} {B g off cap : Nat} {xs : List UInt32} (h : Row w B g off cap xs) {i : Nat} (hi : i < xs.length) : w.frozen? ⟨g, off + i, none⟩ = false := (h.hs i (Nat.lt_of_lt_of_le hi h.hn)).2
/-- a store of a word into the row: what is there then -/
theorem Row.put {w : World} {B g off cap i : Nat} {xs : List UInt32} (h : Row w B g off cap xs) (hi : i < xs.length) (n : Nat) : Row (w.setCell ⟨g, off + i, none⟩ (uv (UInt32.ofNat n))) B g off cap (xs.set i (UInt32.ofNat n)) := h.set_ hi

theorem rd_cell {w : World} {A : Option Addr} {xs : List UInt32} (h : Rd uv w A xs) {i a : Nat} (hi : i < xs.length) (ha : Hid (ent xs i = a)) : ∃ b off, A = some ⟨b, off, none⟩ ∧ b < w.heap.size ∧ w.cell? ⟨b, off + i, none⟩ = some (.int .u32 (a : Int)) := by
  obtain ⟨b, off, h1, h2, h3⟩ := h.at_ hi
  refine ⟨b, off, h1, h2, ?_⟩
  rw [h3, ← ha.out, uv, ent, List.getD, List.getElem?_eq_getElem hi]; rfl

section
variable {P : Program} (w : World) {ops : Array Oper} {rest : List Oper} {o : Oper} {a : Act} {Q : Exit → Act → World → Prop}
/-- make of n noughts, at an address of its own -/
theorem wpList_mke {t e : TypeId} {by_ : Nat} (T : ElT P t e by_) (hz0 : ∀ i, P.info? e = some i → i.zero = some (uv 0)) (hgd : o.guard = none) (l c : Operand) (hop : o.op = Op.makeSlice t l c)
    (B : Nat) (kl kc : IntKind) (N : Int) (hl : a.eval l = .int kl N) (hc : a.eval c = .int kc N) (h0 : 0 ≤ N) (hby : by_ * N ≤ 281474976710656) (hm : N ≤ 281474976710656) (hB : B ≤ w.heap.size)
    (h : ∀ g off cap w' (zs : List UInt32), Row w' B g off cap zs → Hid (zs = List.replicate N.toNat 0) → (zs.length : Int) ≤ N → N ≤ (zs.length : Int) → Below B w w' → w.heap.size ≤ g → wpList P ops Q rest (a.put o.dst (.slice (some ⟨g, off, none⟩) zs.length cap)) w') : wpList P ops Q (o :: rest) a w := by
  obtain ⟨i, z, hi, hz, h1, h2, h3⟩ := T.inf
  obtain rfl : z = uv 0 := by have := hz0 i hi; rw [hz] at this; injection this
  refine wpList_plain hgd fun K hK => ?_
  have hrun := run_make (P := P) w t e i (uv 0) T.ht hi hz kl kc N N h0 (Int.le_refl _) (by rw [h2]; exact hby) (by omega)
  rw [h1, Nat.mul_one] at hrun
  have hmc : (madeCells (uv 0).cells N.toNat).toList = List.replicate N.toNat (uv 0) := by
    rw [show (uv 0).cells = #[uv 0] from rfl]
    apply List.ext_getElem
    · simp [madeCells]
    · intro j h1 h2
      simp [madeCells, Nat.mod_one]
  have hsz : (madeCells (uv 0).cells N.toNat).size = N.toNat := by rw [← Array.length_toList, hmc]; simp
  have hown : OwnG uv (w.alloc (.cells (madeCells (uv 0).cells N.toNat) e)) B (.slice (some ⟨w.heap.size, 0, none⟩) (List.replicate N.toNat (0 : UInt32)).length N.toNat) (List.replicate N.toNat 0) :=
    Own.gen (e := e) ⟨by simp, .inr ⟨w.heap.size, N.toNat, _, rfl, hB, heap_alloc_new w _, by simp, by simp only [maxLen]; omega, by omega, by rw [hmc]; simp⟩⟩
  have := hK _ _ (h _ _ _ _ _ (Row.of_gen hown) rfl (by rw [List.length_replicate]; omega) (by rw [List.length_replicate]; omega) ((Below.refl B w).alloc hB _) (Nat.le_refl _))
  unfold Oper.wp execOp
  simp only [hop, Sem.run_bind, Sem.run_pure, Result.andThen_ok, hl, hc, hrun]
  simp only [List.length_replicate] at this
  exact this
end

theorem trim_n (A : Option Addr) (xs : List UInt32) (n c : Nat) (w : World) (hn : Hid (xs.length = n)) (hr : Rd uv w A xs) (hc : xs.length ≤ c) (hm : c ≤ maxLen) (hl : (xs.length : Int) ≤ 1000000) :
    Calls Try.prog 61 #[.slice A n c] w fun e w' => ∃ v', e = .returned v' ∧ IsNum w v' (val xs) ∧ w = w' := by
  have := hn.out; subst this; exact trim_any A xs c w hr hc hm hl

theorem cmpI_len (x y : Nat) (h : (limbs x).length ≠ (limbs y).length) : cmpZ (limbs x).length (limbs y).length = cmpI x y := by
  unfold cmpZ cmpI
  rcases Nat.lt_or_ge (limbs x).length (limbs y).length with h1 | h1
  · rw [if_pos (by omega), if_pos (limbs_less _ _ h1)]
  · have h2 := limbs_less y x (by omega)
    rw [if_neg (by omega), if_pos (by omega), if_neg (by omega), if_pos h2]

set_option maxRecDepth 100000 in
set_option maxHeartbeats 1600000 in
theorem cmp_any (A : Option Addr) (xs : List UInt32) (c : Nat) (B : Option Addr) (ys : List UInt32) (d : Nat) (w : World) (hr : Rd uv w A xs) (hc : xs.length ≤ c) (hm : c ≤ maxLen) (hl : (xs.length : Int) ≤ 1000000) (hs : Rd uv w B ys) (hd : ys.length ≤ d) (hm2 : d ≤ maxLen) (hl2 : (ys.length : Int) ≤ 1000000) :
    Calls Try.prog 75 #[.slice A xs.length c, .slice B ys.length d] w fun e w' => e = .returned (.int .i64 (cmpI (val xs) (val ys))) ∧ Below w.heap.size w w' := by
  go_enter Try.func75, Try.ntmps75
  go_wp2_with fail
  refine (trim_any A xs c _ hr hc hm hl).mono ?_; rintro e w1 ⟨v1, rfl, hn1, rfl⟩
  obtain ⟨A1, c1, us, rfl, hr1, hc1, hm1, hl1, HU, HVU⟩ := hn1.open_ xs.length (val_lt xs)
  clear hn1
  go_wp2_with fail
  refine (trim_any B ys d _ hs hd hm2 hl2).mono ?_; rintro e w1 ⟨v2, rfl, hn2, rfl⟩
  obtain ⟨A2, c2, vs, rfl, hr2, hc2, hm2', hl2', HW, HVW⟩ := hn2.open_ ys.length (val_lt ys)
  clear hn2
  have hul : (us.length : Int) ≤ 1000000 := by omega
  have hvl : (vs.length : Int) ≤ 1000000 := by omega
  clear hl1 hl2'
  by_cases hlen : us.length = vs.length
  · have b1 : ((us.length : Int) != (vs.length : Int)) = false := by rw [hlen]; simp
    have HLEN := Lib.hid hlen
    have hle : us.length ≤ vs.length := by omega
    clear hlen
    go_wp2_with fail
    go_loopw [5] (fun v wr => ∃ m : Nat, v = .int .i64 ((m : Int) - 1) ∧ m ≤ us.length ∧ Hid (∀ j, m ≤ j → ent us j = ent vs j) ∧ Nx w wr) (fun v _ => (intOf v + 1).toNat)
    case atStart =>
      refine ⟨us.length, rfl, Nat.le_refl _, fun j hj => ?_, Nx.refl _⟩
      have := HLEN.out
      unfold ent
      rw [List.getD, List.getD, List.getElem?_eq_none (by omega), List.getElem?_eq_none (by omega)]
    case round =>
      obtain ⟨m, rfl, hm, HE, hb⟩ := hrel
      rcases m with _ | m
      · have hz : Hid (cmpI (val xs) (val ys) = 0) := by
          have := val_ext us vs fun j => HE.out j (Nat.zero_le _)
          rw [HVU.out, HVW.out] at this
          unfold Hid cmpI; rw [this]; simp
        go_wp2_with fail
        go_ret
        refine ⟨?_, hb⟩
        rw [hz.out]
        rfl
      · obtain ⟨a, HX⟩ : ∃ a, Hid (ent us m = a) := ⟨_, rfl⟩
        obtain ⟨b, HY⟩ : ∃ b, Hid (ent vs m = b) := ⟨_, rfl⟩
        obtain ⟨b1', off1, rfl, hb1', hcx⟩ := rd_cell (hr1.below hb) (i := m) (by omega) HX
        obtain ⟨b2', off2, rfl, hb2', hcy⟩ := rd_cell (hr2.below hb) (i := m) (by omega) HY
        have hmv : m < vs.length := by omega
        have hmu : m < us.length := by omega
        by_cases hab : a = b
        · subst hab
          have g1 : ((a : Int) != (a : Int)) = false := by simp
          go_upto_region 7 with (fail)
          refine wp_region_hyb [(0, true), (1, true), (2, true), (3, true), (4, true), (5, true), (6, true), (7, true), (8, true)] (by kernel_rfl) (by kernel_rfl) ?_
          have f1 : ∀ x : Gr wr, x.1.cell? ⟨b1', off1 + m, none⟩ = some (.int .u32 (a : Int)) := fun x => (x.2.cell (by exact hb1')).trans hcx
          have f2 : ∀ x : Gr wr, x.1.cell? ⟨b2', off2 + m, none⟩ = some (.int .u32 (a : Int)) := fun x => (x.2.cell (by exact hb2')).trans hcy
          iterate 9 (refine hyb_calm rfl (fun K hK => ?_); go_simp; refine hK _ ?_; clear hK K)
          clear f1 f2
          refine hyb_nil (fun w3 hn3 => ?_)
          go_wp2_with fail
          go_roundw
          case rel =>
            refine ⟨m, by go_num, by omega, fun j hj => ?_, hb.trans hn3⟩
            by_cases hjm : j = m
            · subst hjm; rw [HX.out, HY.out]
            · exact HE.out j (by omega)
          case measure => simp [intOf]
        · have g1 : ((a : Int) != (b : Int)) = true := by simp; omega
          have hz : Hid (cmpZ a b = cmpI (val xs) (val ys)) := by
            unfold Hid
            rw [← HVU.out, ← HVW.out]
            unfold cmpZ cmpI
            rcases Nat.lt_or_ge a b with h | h
            · rw [if_pos (by omega), if_pos (val_less us vs m HE.out (by rw [HX.out, HY.out]; exact h))]
            · have h3 := val_less vs us m (fun j hj => (HE.out j hj).symm) (by rw [HX.out, HY.out]; omega)
              rw [if_neg (by omega), if_pos (by omega), if_neg (by omega), if_pos h3]
          clear hab
          go_upto_region 7 with (fail)
          refine wp_region_hyb [(0, true), (1, true), (2, true), (3, true), (4, true), (5, true), (6, true), (7, true), (8, true)] (by kernel_rfl) (by kernel_rfl) ?_
          have f1 : ∀ x : Gr wr, x.1.cell? ⟨b1', off1 + m, none⟩ = some (.int .u32 (a : Int)) := fun x => (x.2.cell (by exact hb1')).trans hcx
          have f2 : ∀ x : Gr wr, x.1.cell? ⟨b2', off2 + m, none⟩ = some (.int .u32 (b : Int)) := fun x => (x.2.cell (by exact hb2')).trans hcy
          iterate 9 (refine hyb_calm rfl (fun K hK => ?_); go_simp; refine hK _ ?_; clear hK K)
          refine hyb_nil (fun w3 hn3 => ?_)
          have f1' : ∀ x : Gr w3, x.1.cell? ⟨b1', off1 + m, none⟩ = some (.int .u32 (a : Int)) := fun x => f1 ⟨x.1, hn3.trans x.2⟩
          have f2' : ∀ x : Gr w3, x.1.cell? ⟨b2', off2 + m, none⟩ = some (.int .u32 (b : Int)) := fun x => f2 ⟨x.1, hn3.trans x.2⟩
          clear f1 f2
          go_upto_region 8 with (fail)
          refine wp_region_hyb [(0, true), (1, true), (2, true), (3, true), (4, true), (5, true), (6, true), (7, true), (8, false), (9, true)] (by kernel_rfl) (by kernel_rfl) ?_
          iterate 8 (refine hyb_calm rfl (fun K hK => ?_); go_simp; refine hK _ ?_; clear hK K)
          clear f1' f2'
          refine hyb_alone rfl (fun w4 hn4 K hK => ?_)
          go_simp
          refine (cmpU32_any a b _).mono ?_; rintro e w' ⟨rfl, rfl⟩
          refine hK _ _ (Nx.refl _) ?_
          clear hK K
          refine hyb_calm rfl (fun K hK => ?_); go_simp; refine hK _ ?_; clear hK K
          refine hyb_nil (fun w5 hn5 => ?_)
          go_wp2
          go_ret
          refine ⟨?_, hb.trans (hn3.trans (hn4.trans hn5))⟩
          rw [← hz.out]
          rfl
  · have b1 : ((us.length : Int) != (vs.length : Int)) = true := by simp; omega
    have hz : Hid (cmpZ us.length vs.length = cmpI (val xs) (val ys)) := by
      unfold Hid
      rw [HU.out, HW.out] at hlen ⊢
      exact cmpI_len _ _ hlen
    clear hlen
    go_wp2_with fail
    refine (cmpInt_any _ _ _).mono ?_; rintro e w' ⟨rfl, rfl⟩
    rw [hz.out]
    go_wp2_with fail
    go_ret
    exact ⟨rfl, Below.refl _ _⟩
end Go.Proofs.Ytiefheocomkfiaa
