/- The contract of Names. -/
import Derived.Test.YtpaacfoiiihbeaaDoorKinJ
set_option linter.unusedVariables false
set_option linter.unusedSimpArgs false
namespace Go.Proofs.YtpaacfoiiihbeaaDoor
open Go.RowKit

/-- the names of a text -/
def namesW (l : List UInt8) : List ByteArray := if (wholeT l).1 ≠ 0 then [] else nmB (wholeT l).2
theorem namesW_len (l : List UInt8) : (namesW l).length ≤ l.length := by
  unfold namesW
  split
  · exact Nat.zero_le _
  · rename_i h
    have h0 : (wholeT l).1 = 0 := by simpa using h
    obtain ⟨h1, -, h2⟩ := wholeT_show l h0
    have := names_len _ h1
    rw [nmB_len]
    rw [← h2] at this
    exact this

set_option maxRecDepth 100000 in
set_option maxHeartbeats 6400000 in
theorem names_any (w : World) (s : ByteArray) (l : List UInt8) (hl : Tx s l) (hs : (l.length : Int) ≤ 8000) (ht : TabK w) (hm : MaxC w) :
    Calls Tryd.prog 11 #[.string s] w fun e w' => ∃ v, e = .returned v ∧ OwnN w' w.heap.size v (namesW l) ∧ Nx w w' := by
  have HR := Lib.hid (read_any w s l hl hs ht hm)
  obtain ⟨xs, hxs⟩ : ∃ xs, Hid (namesW l = xs) := ⟨_, rfl⟩
  have hxl : (xs.length : Int) ≤ 8000 := by have := namesW_len l; rw [hxs.out] at this; omega
  rw [hxs.out]
  clear hl ht hm
  go_enter Tryd.func11, Tryd.ntmps11
  go_wp2_with fail
  refine HR.out.mono ?_; rintro e w1 hr
  obtain ⟨o, D, T, v, m, he, hD, hown, hn, A, n, c, rfl⟩ := hr.form
  rw [show (if (wholeT l).1 ≠ 0 then [] else nmB (wholeT l).2) = xs from hxs.out] at hown
  subst he
  obtain ⟨A', c', hv, hc1, hc2, hr0⟩ := OwnS.sl strC_size hown
  cases hv
  clear hr hD hown
  obtain ⟨g, hg⟩ : ∃ g, w1.heap.size = g := ⟨_, rfl⟩
  generalize ((headW l).1 : Int) = hk
  generalize bA (headW l).2.1 = hN
  generalize bA (headW l).2.2.1 = hA
  generalize bA (headW l).2.2.2 = hC
  generalize ((wholeT l).1 : Int) = hE
  have hB1 := (Blk.new w1 #[.int .i64 hk, .string hN, .string hA, .string hC] 42)
  have hB2 := Blk.new (w1.alloc (.cells #[.int .i64 hk, .string hN, .string hA, .string hC] 42)) #[.string T, .int .i64 o, .int .i64 0, .int .i64 D, .slice A xs.length c, .map m] 45
  have hN1 := ((Nx.refl w1).al (.cells #[.int .i64 hk, .string hN, .string hA, .string hC] 42)).al (.cells #[.string T, .int .i64 o, .int .i64 0, .int .i64 D, .slice A xs.length c, .map m] 45)
  have e1 : (w1.alloc (.cells #[.int .i64 hk, .string hN, .string hA, .string hC] 42)).heap.size = g + 1 := by simp [← hg]
  rw [e1] at hB2
  have HN1 := Lib.hid hN1
  have HB2 := Lib.hid hB2
  have HR0 := Lib.hid hr0
  have HN := Lib.hid hn
  clear hN1 hB1 hB2 hr0 hn e1
  go_wp2_with fail
  generalize World.alloc (World.alloc _ _) _ = w2 at *
  have HN2 : Hid (Nx w w2) := HN.out.trans HN1.out
  have HR2 := Lib.hid (RdS.nx HR0.out HN1.out)
  clear HN1 HB2 HN HR0
  go_loopw [6, 18] (fun lv iv wr => ∃ k : Nat, iv = .int .i64 (k : Int) ∧ k ≤ xs.length ∧ OwnN wr w2.heap.size lv (xs.take k) ∧ Nx w2 wr) (fun _ iv _ => xs.length - (intOf iv).toNat)
  case atStart => exact ⟨0, rfl, Nat.zero_le _, OwnS.nil_ _ _, Nx.refl _⟩
  case round =>
    obtain ⟨k, rfl, hk, hown, hnx⟩ := hrel
    have HOW := Lib.hid hown
    have HNX := Lib.hid hnx
    by_cases hlt : k < xs.length
    · have hkd : decide ((k : Int) < (xs.length : Int)) = true := decide_eq_true (by omega)
      obtain ⟨g', rfl, hg', hcell⟩ := RdS.nx HR2.out hnx (by omega)
      have hc0 := hcell k hlt 0 (by decide)
      have hc : wr.cell? ⟨g', k, none⟩ = some (.string xs[k]) := by simpa [strC] using hc0
      have hkI : (k : Int) ≤ 8000 := by omega
      have hk1 : (k : Int) < (xs.length : Int) := by omega
      obtain ⟨y, hy⟩ : ∃ y, Hid (xs[k] = y) := ⟨xs[k], Lib.hid rfl⟩
      rw [hy.out] at hc
      clear hcell hc0 hown hnx hg'
      go_wp2_with fail
      refine (fresh_any y _).mono ?_; rintro e w3 ⟨rfl, hn3⟩
      have HOW3 := Lib.hid (HOW.out.nx hn3)
      have HNX3 := Lib.hid (HNX.out.trans hn3)
      have HO4 : Hid (OwnN (w3.alloc (.cells #[.string y] 9)) w2.heap.size u6 (xs.take k)) := HOW3.out.nx (nx0 _ _)
      have HC4 : Hid ((w3.alloc (.cells #[.string y] 9)).cell? ⟨w3.heap.size, 0, none⟩ = some (.string y)) := (Blk.new w3 #[.string y] 9).cell 0
      have HZ4 : Hid (w2.heap.size ≤ (w3.alloc (.cells #[.string y] 9)).heap.size) := Nat.le_trans HNX3.out.size (nx0 w3 _).size
      have htl : ((xs.take k).length : Int) ≤ 100000 := by have := List.length_take_le k xs; omega
      clear hc hn3
      go_wp2_with (refine wpList_appN _ (o := ⟨some 26, _, _, _, _, _⟩) rfl _ _ rfl w2.heap.size u6 (xs.take k) y rfl HO4.out _ rfl HC4.out htl HZ4.out ?_; intro v5 w5 hown5 hfr5; have HOW5 := Lib.hid hown5; have HFR5 := Lib.hid hfr5; clear hfr5 hown5)
      have hnx5 : Nx w2 w5 := by
        have h1 := (HFR5.out w2.heap.size).mono (nx0 w3 (.cells #[.string y] 9))
        exact h1.to HNX3.out (Nat.le_refl _) (fun k e => (HOW3.out.own k e).1)
      have ht : xs.take (k + 1) = xs.take k ++ [y] := by
        rw [List.take_succ_eq_append_getElem hlt, hy.out]
      exact ⟨⟨k + 1, by go_num, hlt, by rw [ht]; exact HOW5.out, hnx5⟩, by simp [intOf]; omega⟩
    · have hkd : decide ((k : Int) < (xs.length : Int)) = false := decide_eq_false (by omega)
      have hkn : ¬ k < xs.length := hlt
      clear hown hnx
      go_wp2_with fail
      go_ret
      refine ⟨_, rfl, ?_, HN2.out.trans HNX.out⟩
      have := HOW.out
      rw [List.take_of_length_le (by omega)] at this
      exact OwnS.less this HN2.out.size
end Go.Proofs.YtpaacfoiiihbeaaDoor
