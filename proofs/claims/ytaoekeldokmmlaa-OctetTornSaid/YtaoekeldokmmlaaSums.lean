/- OctetSums: for every two slices of bytes the law returns true and leaves memory as it was. No condition. -/
import Derived.Test.YtaoekeldokmmlaaBegun
import Derived.Test.YtaoekeldokmmlaaOwnG
import Derived.Deep.QuietTactic
import Derived.BigQuiet
import Derived.WalkLawsBesides
import Derived.Deep.DeepCutAuto
import Derived.RegionTactic
import Derived.Deep.RegionWith
namespace Go.Proofs.Ytaoekeldokmmlaa
open Go.RowKit

theorem sum_at (A : Option Addr) (xs : List UInt8) (n c : Nat) (w : World) (hn : xs.length = n) (hr : Rd bv w A xs) (hc : n ≤ c) (hm : c ≤ maxLen) :
    Calls Try.prog 22 #[.slice A n c] w fun e w' => e = .returned (.int .u32 (crc xs : Nat)) ∧ w' = w := by
  subst hn; exact (sum_any A xs c w hr hc hm).mono fun _ _ ⟨h1, h2⟩ => ⟨h1, h2.symm⟩

theorem crcStep_xor (r s : Nat) : crcStep (r ^^^ s) = crcStep r ^^^ crcStep s := by
  unfold crcStep
  rw [Nat.xor_div_two]
  have hm : (r ^^^ s) % 2 = 1 ↔ ¬ (r % 2 = 1 ↔ s % 2 = 1) := Nat.xor_mod_two_eq_one
  generalize (2197175160 : Nat) = p
  by_cases hr : r % 2 = 1 <;> by_cases hs : s % 2 = 1
  · rw [if_neg (fun h => hm.1 h ⟨fun _ => hs, fun _ => hr⟩), if_pos hr, if_pos hs]
    rw [Nat.xor_zero, Nat.xor_assoc, Nat.xor_comm p, Nat.xor_assoc, Nat.xor_self, Nat.xor_zero]
  · rw [if_pos (hm.2 fun h => hs (h.1 hr)), if_pos hr, if_neg hs]
    rw [Nat.xor_zero, Nat.xor_assoc, Nat.xor_assoc, Nat.xor_comm p]
  · rw [if_pos (hm.2 fun h => hr (h.2 hs)), if_neg hr, if_pos hs]
    rw [Nat.xor_zero, Nat.xor_assoc]
  · rw [if_neg (fun h => hm.1 h ⟨fun h => absurd h hr, fun h => absurd h hs⟩), if_neg hr, if_neg hs]
    simp
theorem crcSteps_xor (k r s : Nat) : crcSteps k (r ^^^ s) = crcSteps k r ^^^ crcSteps k s := by
  induction k with
  | zero => rfl
  | succ k ih => simp only [crcSteps]; rw [ih, crcStep_xor]
theorem xor4 (a b c d : Nat) : (a ^^^ b) ^^^ (c ^^^ d) = (a ^^^ c) ^^^ (b ^^^ d) := by
  rw [Nat.xor_assoc, ← Nat.xor_assoc b, Nat.xor_comm b c, Nat.xor_assoc c, ← Nat.xor_assoc]
theorem crcByte_xor (r s : Nat) (x y : UInt8) : crcByte r x ^^^ crcByte s y = crcByte (r ^^^ s) (x ^^^ y) := by
  unfold crcByte
  rw [← crcSteps_xor, UInt8.toNat_xor, xor4]
theorem fold_xor : ∀ (l m : List UInt8) (r s : Nat), l.length = m.length → l.foldl crcByte r ^^^ m.foldl crcByte s = (List.zipWith (· ^^^ ·) l m).foldl crcByte (r ^^^ s)
  | [], [], _, _, _ => rfl
  | [], _ :: _, _, _, h => by simp at h
  | _ :: _, [], _, _, h => by simp at h
  | x :: l, y :: m, r, s, h => by
    simp only [List.foldl_cons, List.zipWith_cons_cons]
    rw [fold_xor l m _ _ (by simpa using h), crcByte_xor]
theorem crc_xor (l m : List UInt8) (h : l.length = m.length) : crc l ^^^ crc m = (List.zipWith (· ^^^ ·) l m).foldl crcByte 0 := by
  unfold crc crcReg
  rw [xor4, Nat.xor_self, Nat.zero_xor, fold_xor l m _ _ h, Nat.xor_self]
theorem crc_zero (l : List UInt8) (n : Nat) (h : l.length = n) : crc l ^^^ crc (List.replicate n 0) = l.foldl crcByte 0 := by
  rw [crc_xor _ _ (by simp [h])]
  congr 1
  apply List.ext_getElem
  · simp [h]
  · intro i h1 h2
    simp
/-- two new rows, apart -/
def Made (w w' : World) (v v' : Value) (n : Nat) (C : Array Value) : Prop :=
  ∃ g g', v = .slice (some ⟨g, 0, none⟩) n n ∧ v' = .slice (some ⟨g', 0, none⟩) n n ∧ g ≠ g' ∧ w.heap.size ≤ g ∧ w.heap.size ≤ g' ∧
    w'.heap[g]? = some (.cells C 5 (0, 0)) ∧ w'.heap[g']? = some (.cells C 5 (0, 0)) ∧ Below w.heap.size w w'
theorem made_both (w : World) (n : Nat) (C : Array Value) : Made w ((w.alloc (.cells C 5)).alloc (.cells C 5)).drew (.slice (some ⟨w.heap.size, 0, none⟩) n n) (.slice (some ⟨w.heap.size + 1, 0, none⟩) n n) n C := by
  refine ⟨w.heap.size, w.heap.size + 1, rfl, rfl, by omega, by omega, by omega, ?_, ?_, ?_⟩
  · show ((w.heap.push _).push _)[w.heap.size]? = _
    rw [Array.getElem?_push, if_neg (by simp), Array.getElem?_push, if_pos rfl]
  · show ((w.heap.push _).push _)[w.heap.size + 1]? = _
    rw [Array.getElem?_push, if_pos (by simp)]
  · exact (nxa (nx0 w _) _).drew
theorem made_both' (w : World) (n : Nat) (C : Array Value) : Made w ((w.alloc (.cells C 5)).alloc (.cells C 5)).drew (.slice (some ⟨w.heap.size + 1, 0, none⟩) n n) (.slice (some ⟨w.heap.size, 0, none⟩) n n) n C := by
  obtain ⟨g, g', h1, h2, h3, h4, h5, h6, h7, h8⟩ := made_both w n C
  exact ⟨g', g, h2, h1, Ne.symm h3, h5, h4, h7, h6, h8⟩
theorem OwnG.far {w : World} {B : Nat} {v : Value} {zs : List UInt8} {g : Nat} (h : OwnG bv w B v zs) (hv : ∀ a n c, v = .slice (some a) n c → a.block ≠ g) (i : Nat) (u : Value) : OwnG bv (w.setCell ⟨g, i, none⟩ u) B v zs := by
  rcases h with h | ⟨g', off, cap, rfl, hB, hg, hn, hm, hs, hc⟩
  · exact .inl h
  · have hne : g ≠ g' := fun e => hv _ _ _ rfl e.symm
    refine .inr ⟨g', off, cap, rfl, hB, by simpa [World.setCell] using hg, hn, hm, fun j hj => ?_, fun j hj => ?_⟩
    · rw [World.cell?_setCell_other _ _ _ _ (by simp only [ne_eq, Addr.mk.injEq]; omega), World.frozen?_setCell]; exact hs j hj
    · rw [World.cell?_setCell_other _ _ _ _ (by simp only [ne_eq, Addr.mk.injEq]; omega)]; exact hc j hj
theorem own_of_made {w : World} {B n g : Nat} {C : Array Value} (hC : C.toList = List.replicate n (bv 0)) (hB : B ≤ g) (h : w.heap[g]? = some (.cells C 5 (0, 0))) (hn : n ≤ 40) :
    OwnG bv w B (.slice (some ⟨g, 0, none⟩) (List.replicate n (0 : UInt8)).length n) (List.replicate n 0) := by
  have hs : C.size = n := by rw [← Array.length_toList, hC]; simp
  refine (Own.gen (e := 5) ⟨by simp, .inr ⟨g, n, C, rfl, hB, h, by simp, by simp only [maxLen]; omega, by omega, ?_⟩⟩)
  rw [hC]; simp
/-- what is unlike in the first k bytes, noughts behind -/
def unlikeL (xs ys : List UInt8) (n k : Nat) : List UInt8 := (List.range k).map (fun j => xs.getD j 0 ^^^ ys.getD j 0) ++ List.replicate (n - k) 0
theorem unlike_step (xs ys : List UInt8) (n k : Nat) (hk : k < n) (h1 : n ≤ xs.length) (h2 : n ≤ ys.length) : (unlikeL xs ys n k).set k (xs[k] ^^^ ys[k]) = unlikeL xs ys n (k + 1) := by
  unfold unlikeL
  rw [List.set_append_right _ _ (by simp), List.range_succ, show n - k = (n - (k + 1)) + 1 from by omega, List.replicate_succ]
  simp [List.getD, show k < xs.length by omega, show k < ys.length by omega]
theorem xor_u8 (a b : UInt8) : bits .xor .u8 (a.toNat : Int) (b.toNat : Int) = (((a ^^^ b).toNat : Nat) : Int) := by
  have h1 := a.toNat_lt
  have h2 := b.toNat_lt
  rw [u8_xor_nat _ _ (by omega) (by omega), UInt8.toNat_xor]
theorem bv_xor (a b : UInt8) : Value.int .u8 ((a.toNat ^^^ b.toNat : Nat) : Int) = bv (a ^^^ b) := by rw [bv, UInt8.toNat_xor]
theorem Rd.pre_ {w : World} {A : Option Addr} {xs : List UInt8} (h : Rd bv w A xs) (n : Nat) (hn : n ≤ xs.length) : Rd bv w A (xs.take n) := fun h0 => by
  rw [List.length_take] at h0
  obtain ⟨b, off, e, hb, hc⟩ := h (by omega)
  refine ⟨b, off, e, hb, fun j hj => ?_⟩
  rw [List.length_take] at hj
  rw [hc j (by omega), List.getElem_take]
theorem crc_unlike (xs ys : List UInt8) (n : Nat) (h1 : n ≤ xs.length) (h2 : n ≤ ys.length) : crc (xs.take n) ^^^ crc (ys.take n) = crc (unlikeL xs ys n n) ^^^ crc (List.replicate n 0) := by
  rw [crc_xor _ _ (by simp; omega), crc_zero _ _ (by simp [unlikeL])]
  congr 1
  apply List.ext_getElem
  · simp [unlikeL]; omega
  · intro i h3 h4
    simp [unlikeL, List.getD] at h3 h4 ⊢
    simp [show i < xs.length by omega, show i < ys.length by omega, show i < n by omega, List.getElem_append]
theorem make_noughts (n : Nat) (hn : n ≤ 40) : ∃ C : Array Value, C.toList = List.replicate n (bv 0) ∧ ∀ W : World, (Instr.makeSlice 22 (.int .i64 (n : Int)) (.int .i64 (n : Int))).run Try.prog W = .ok (.slice (some ⟨W.heap.size, 0, none⟩) n n) (W.alloc (.cells C 5)) := by
  obtain ⟨i, h1, h2, h3, h4⟩ := info_parts info_u8
  refine ⟨madeCells (Value.int .u8 0).cells n, ?_, fun W => ?_⟩
  · show (madeCells #[.int .u8 0] n).toList = _
    apply List.ext_getElem
    · simp [madeCells]
    · intro j h1 h2
      simp [madeCells, Nat.mod_one, bv]
  · have := run_make (P := Try.prog) W 22 5 i _ Try.underlying22 h1 h2 .i64 .i64 n n (by omega) (by omega) (by rw [h4]; omega) (by omega)
    rw [h3] at this
    simpa using this

set_option maxHeartbeats 1000000 in
theorem OctetSums_walk (A : Option Addr) (xs : List UInt8) (c : Nat) (B : Option Addr) (ys : List UInt8) (d : Nat) (w : World) (hr : Rd bv w A xs) (hc : xs.length ≤ c) (hm : c ≤ maxLen) (hs : Rd bv w B ys) (hd : ys.length ≤ d) (hn : d ≤ maxLen) :
    Calls Try.prog 8 #[.slice A xs.length c, .slice B ys.length d] w fun e w' => e = .returned (.bool true) ∧ Below w.heap.size w w' := by
  go_enter Try.func8, Try.ntmps8
  go_wp2_with fail
  refine (begun_any _).mono ?_; rintro e w0 ⟨rfl, hb0⟩
  unfold maxLen at hm hn
  have hb0' := Lib.hid hb0
  go_upto_region 3 with (fail)
  go_cut [5] (fun u wx => w0 = wx ∧ ∃ n : Nat, u = .int .i64 n ∧ n ≤ xs.length ∧ n ≤ ys.length ∧ n ≤ 40)
  case first =>
    go_wp2_with fail
    all_goals go_meet
    · exact ⟨rfl, 40, rfl, by omega, by omega, by omega⟩
    · exact ⟨rfl, ys.length, rfl, by omega, by omega, by omega⟩
    · exact ⟨rfl, xs.length, rfl, by omega, by omega, by omega⟩
  case rest =>
    obtain ⟨rfl, n, rfl, hn1, hn2, hn3⟩ := hcut
    obtain ⟨C, hC, hmk⟩ := make_noughts n hn3
    go_upto_region 4 with (fail)
    go_cut [6, 7] (fun v6 v7 wx => Made w0 wx v6 v7 n C)
    case first =>
      go_region
      all_goals (go_wp2; go_meet)
      · exact made_both w0 n C
      · exact made_both' w0 n C
    case rest =>
      obtain ⟨g, g', rfl, rfl, hgg, hg1, hg2, hh1, hh2, hbm⟩ := hcut
      have ho1 := own_of_made hC hg1 hh1 hn3
      have ho2 := own_of_made hC hg2 hh2 hn3
      have hlt1 : g < wc.heap.size := by
        rcases Nat.lt_or_ge g wc.heap.size with h | h
        · exact h
        · rw [Array.getElem?_eq_none h] at hh1; cases hh1
      have HO1 := Lib.hid ho1
      have HO2 := Lib.hid ho2
      clear ho1 ho2 hh1 hh2 hmk hC hb0
      go_wp2_with fail
      go_loopw [8] (fun i wr => ∃ (k : Nat) (us : List UInt8), k ≤ n ∧ i = .int .i64 k ∧ us.length ≤ n ∧ n ≤ us.length ∧ Hid (us = unlikeL xs ys n k) ∧
        OwnG bv wr w0.heap.size (.slice (some ⟨g, 0, none⟩) us.length n) us ∧ OwnG bv wr w0.heap.size (.slice (some ⟨g', 0, none⟩) (List.replicate n (0 : UInt8)).length n) (List.replicate n 0) ∧ Below w0.heap.size w0 wr) (fun i _ => n - (intOf i).toNat)
      case atStart => exact ⟨0, List.replicate n 0, Nat.zero_le _, rfl, by simp, by simp, by unfold Hid unlikeL; simp, HO1.out, HO2.out, hbm⟩
      case round =>
        obtain ⟨k, us, hk, rfl, hu1, hu2, HU, hw1, hw2, hbw⟩ := hrel
        by_cases hlt : k < n
        · obtain ⟨b1, off1, rfl, hbb1, hc1⟩ := ((hr.below hb0'.out).below hbw).at_ (k := k) (by omega)
          obtain ⟨b2, off2, rfl, hbb2, hc2⟩ := ((hs.below hb0'.out).below hbw).at_ (k := k) (by omega)
          rcases id hw1 with ⟨h0, _⟩ | ⟨g0, off0, cap0, h0, _, hg0, hn0, hm0, hsp0, hcs0⟩
          · cases h0
          cases h0
          obtain ⟨-, hf1⟩ := hsp0 k (by omega)
          have hc3 := hcs0 k (by omega)
          simp only [Nat.zero_add] at hf1 hc3
          clear hsp0 hcs0
          unfold bv at hc1 hc2 hc3
          have hxor := xor_u8 xs[k] ys[k]
          go_upto_region 8 with (fail)
          go_region
          have hst := hw1.set_ (i := k) (y := xs[k] ^^^ ys[k]) (by omega)
          have hfr := OwnG.far (g := g) hw2 (fun a m c h => by cases h; exact Ne.symm hgg) k (bv (xs[k] ^^^ ys[k]))
          have hbs := hbw.setCell (p := ⟨g, k, none⟩) hg1 (bv (xs[k] ^^^ ys[k]))
          rw [Nat.zero_add] at hst
          have HST := Lib.hid hst
          have HFR := Lib.hid hfr
          have HBS := Lib.hid hbs
          clear hst hfr hbs
          go_wp2
          go_roundw
          case rel =>
            rw [bv_xor]
            refine ⟨k + 1, _, by omega, by go_num, ?_, ?_, ?_, HST.out, HFR.out, HBS.out.drew⟩
            · simpa using hu1
            · simpa using hu2
            · have hst := unlike_step xs ys n k hlt hn1 hn2
              rw [← HU.out] at hst
              exact hst
          case measure => simp [intOf]; omega
        · obtain rfl : k = n := by omega
          have hlt' : ¬ (k : Int) < k := by omega
          obtain ⟨A1, c1, e1, -, -, hr1⟩ := hw1.sl
          cases e1
          obtain ⟨A2, c2, e2, -, -, hr2⟩ := hw2.sl
          cases e2
          have hra := ((hr.below hb0'.out).below hbw).pre_ k hn1
          have hrb := ((hs.below hb0'.out).below hbw).pre_ k hn2
          have hlin : Hid (crc (xs.take k) ^^^ crc (ys.take k) = crc us ^^^ crc (List.replicate k 0)) := by
            unfold Hid
            rw [HU.out]
            exact crc_unlike xs ys k hn1 hn2
          have l1 := List.length_take_of_le hn1
          have l2 := List.length_take_of_le hn2
          have L1 := Lib.hid l1
          have L2 := Lib.hid l2
          have L3 : Hid (us.length = k) := by unfold Hid; omega
          have L4 : Hid ((List.replicate k (0 : UInt8)).length = k) := by unfold Hid; simp
          clear l1 l2
          have q1 := crc_lt (xs.take k)
          have q2 := crc_lt (ys.take k)
          have q3 := crc_lt us
          have q4 := crc_lt (List.replicate k 0)
          have S1 := Lib.hid fun j => sum_at A (xs.take k) k c (wr.drewN j) L1.out hra (by omega) (by unfold maxLen; omega)
          have S2 := Lib.hid fun j => sum_at B (ys.take k) k d (wr.drewN j) L2.out hrb (by omega) (by unfold maxLen; omega)
          have S3 := Lib.hid fun j => sum_at (some ⟨g, 0, none⟩) us k k (wr.drewN j) L3.out hr1 (by omega) (by unfold maxLen; omega)
          have S4 := Lib.hid fun j => sum_at (some ⟨g', 0, none⟩) (List.replicate k 0) k k (wr.drewN j) L4.out hr2 (by omega) (by unfold maxLen; omega)
          have hlin := hlin.out
          generalize crc (xs.take k) = s1 at *
          generalize crc (ys.take k) = s2 at *
          generalize crc us = s3 at *
          generalize crc (List.replicate k 0) = s4 at *
          have hfin : (bits .xor .u32 (s1 : Int) (s2 : Int) == bits .xor .u32 (s3 : Int) (s4 : Int)) = true := by
            rw [u32_xor_nat s1 s2 q1 q2, u32_xor_nat s3 s4 q3 q4, hlin]
            simp
          clear hlin q1 q2 q3 q4 hw1 hw2 hr1 hr2 hra hrb
          go_upto_region 9 with (fail)
          go_quiet (first
            | (go_at_call_of 22 (Value.slice A k c); exact Calls.quiet_of_same (S1.out _))
            | (go_at_call_of 22 (Value.slice B k d); exact Calls.quiet_of_same (S2.out _))
            | (go_at_call_of 22 (Value.slice (some (⟨g, 0, none⟩ : Addr)) k k); exact Calls.quiet_of_same (S3.out _))
            | (go_at_call_of 22 (Value.slice (some (⟨g', 0, none⟩ : Addr)) k k); exact Calls.quiet_of_same (S4.out _)))
          go_wp2
          go_ret
          exact ⟨rfl, (nx hb0'.out hbw).trans ⟨rfl, rfl, rfl, Nat.le_refl _, fun _ _ => rfl⟩⟩
end Go.Proofs.Ytaoekeldokmmlaa
