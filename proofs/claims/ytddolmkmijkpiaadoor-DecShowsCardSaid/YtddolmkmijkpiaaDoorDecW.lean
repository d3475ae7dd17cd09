/- The contracts of the library's numerals: strconv.FormatUint at ten, strconv.Itoa, over the table of tens. -/
import Derived.Test.YtddolmkmijkpiaaDoorDecA
import Derived.Test.YtddolmkmijkpiaaDoorDecT
import Derived.Test.YtddolmkmijkpiaaDoorShelf
import Derived.Test.YtddolmkmijkpiaaDoorBlk
import Derived.Lib.ItoaMem
namespace Go.Proofs.YtddolmkmijkpiaaDoor
open Go.RowKit
open Go.Shelf Go.Sort

/-- the library's table of tens lies as it was laid -/
def Tab (w : World) : Prop := Lib.TabIs Tryd.prog w "internal/strconv.uint64pow10" .u64 Lib.pow10Tab

theorem decDigits_decS (n : Nat) : Lib.decDigits n = decS n := by
  induction n using Nat.strongRecOn with
  | _ n ih =>
    rw [Lib.decDigits]
    by_cases h : n < 10
    · rw [dif_pos h, decS_small n h, Nat.mod_eq_of_lt h]
    · rw [dif_neg h, decS_step n (by omega), ih (n / 10) (by omega)]
theorem itoa_tenS (v : Int) : Lib.itoa v = tenS v := by
  unfold Lib.itoa tenS
  rw [decDigits_decS, decDigits_decS]
  split
  · congr 2; omega
  · rfl
theorem Nx.grown {w w1 : World} (k : Nat) (os : Array Obj) (h : w1 = grow (w.drewN k) os) : Nx w w1 := by
  subst h
  refine ⟨rfl, rfl, rfl, ?_, fun i hi => ?_⟩
  · simp [grow, World.drewN]
  · simp [grow, World.drewN]
    rw [Array.getElem?_append_left hi]

theorem itoa_any (v : Int) (w : World) (h0 : -9223372036854775808 ≤ v) (h1 : v ≤ 9223372036854775807) (ht : Tab w) :
    Calls Tryd.prog 34 #[.int .i64 v] w fun e w' => ∃ t : ByteArray, e = .returned (.string t) ∧ Hid (Tx t (tenS v)) ∧ Nx w w' := by
  refine (Tryd.strconv_Itoa v h0 h1 w ht).mono ?_
  rintro e w' ⟨rfl, k, os, hw⟩
  exact ⟨_, rfl, by rw [itoa_tenS]; exact Tx.of _, Nx.grown k os hw⟩

theorem put_nx (w w1 : World) (h : Nx w w1) (b off : Nat) (dk : Array UInt8) (hb : w.heap.size ≤ b) : Nx w (putRow (fun (b : UInt8) => Value.int .u8 (b.toNat : Int)) w1 b off dk) := by
  refine ⟨h.os, h.tape, h.output, ?_, fun i hi => ?_⟩
  · have := h.size
    simpa [putRow, mapBlock] using this
  · rw [← h.block i hi]
    simp only [putRow, mapBlock]
    rw [Array.getElem?_modify, if_neg (by omega)]
theorem holds0 (w : World) (T : TypeId) (nd : Nat) (hs : nd ≤ 24) : Holds (fun (b : UInt8) => Value.int .u8 (b.toNat : Int)) (w.alloc (.cells Lib.zeros24 T)) w.heap.size 0 (Array.replicate nd (0 : UInt8)) := fun j hj => by
  rw [Array.size_replicate] at hj
  rw [World.cell?_alloc_new, World.frozen?_alloc_new, Nat.zero_add, Lib.zeros24_at j (by omega)]
  simp [hj]

set_option maxRecDepth 100000 in
set_option maxHeartbeats 800000 in
theorem formatUint_in (u : Nat) (w : World) (hu1 : 100 ≤ u) (hu64 : u < 18446744073709551616) (htab : Tab w) :
    Calls Tryd.prog 75 #[.int .u64 u, .int .i64 10] w fun e w' => ∃ t : ByteArray, e = .returned (.string t) ∧ Hid (Tx t (decS u)) ∧ Nx w w' := by
  have hnd20 : Lib.nDigits u ≤ 20 := by have := Lib.numDigits_eq u (by omega) hu64; split at this <;> omega
  have hu2 : (u : Int) ≤ 18446744073709551615 := by omega
  have hal : Tryd.prog.arrayLen 108 = 24 := by kernel_rfl
  have hsl : ∀ W : World, (Instr.sliceAt 108 (.pointer (some ⟨w.heap.size, 0, none⟩)) none (some (.int .i64 (Lib.nDigits u : Int))) none).run Tryd.prog W = .ok (.slice (some ⟨w.heap.size, 0, none⟩) (Lib.nDigits u) 24) W := fun W => by
    rw [run_sliceAt_array_h W 108 ⟨w.heap.size, 0, none⟩ (by kernel_rfl) .i64 (Lib.nDigits u : Int) (by omega) (by rw [hal]; omega)]
    go_simp
  have hH0 := holds0 w 108 (Lib.nDigits u) (by omega)
  have hfmt := Tryd.internal_strconv_formatBase10 w.heap.size 0 24 u (Array.replicate (Lib.nDigits u) 0) (w.alloc (.cells Lib.zeros24 108)) hH0 (by rw [Array.size_replicate]; exact Lib.lt_pow_nDigits u) hu64 (by rw [Array.size_replicate]; omega)
  rw [Array.size_replicate] at hfmt
  have HH0 := Lib.hid hH0
  clear hH0 hal
  have hu3 : (100 : Int) ≤ (u : Int) := by omega
  go_enter Tryd.func75, Tryd.ntmps75
  go_wp2_with fail
  refine (Tryd.internal_strconv_numDigits u (by omega) hu64 _ (Lib.tabIs_alloc htab _)).mono ?_; rintro e w' ⟨rfl, rfl⟩
  go_wp2_with fail
  refine hfmt.mono ?_
  rintro e w' ⟨rfl, k, v', dk, rfl, hF⟩
  have hcv : (convert 53 9 (.slice (some ⟨w.heap.size, 0, none⟩) (Lib.nDigits u) 24)).run Tryd.prog ((putRow (fun (b : UInt8) => Value.int .u8 (b.toNat : Int)) (w.alloc (.cells Lib.zeros24 108)) w.heap.size 0 dk).drewN k) = .ok (.string ⟨(Lib.decDigits u).toArray⟩) ((putRow (fun (b : UInt8) => Value.int .u8 (b.toNat : Int)) (w.alloc (.cells Lib.zeros24 108)) w.heap.size 0 dk).drewN k) := by
    have h := run_convert_bytes_back (P := Tryd.prog) ((putRow (fun (b : UInt8) => Value.int .u8 (b.toNat : Int)) (w.alloc (.cells Lib.zeros24 108)) w.heap.size 0 dk).drewN k) 53 9 5 ⟨w.heap.size, 0, none⟩ 24 (Lib.decDigits u) Tryd.underlying53 Tryd.underlying5 Tryd.underlying9 (fun j hj => by
      rw [Lib.row_is_numeral hF j hj, Lib.add_plain, World.cell?_drewN]
      exact cell?_putRow (fun (b : UInt8) => Value.int .u8 (b.toNat : Int)) _ w.heap.size 0 _ dk HH0.out (by rw [hF.size, Array.size_replicate]) j (by rw [hF.size]; rw [Lib.decDigits_length] at hj; exact hj))
    rw [Lib.decDigits_length] at h
    exact h
  go_wp2_with fail
  go_ret
  refine ⟨_, rfl, by rw [decDigits_decS]; exact Tx.of _, ?_⟩
  exact Nx.dr (put_nx w (w.alloc (.cells Lib.zeros24 108)) (nx0 _ _) w.heap.size 0 dk (Nat.le_refl _)) k

theorem formatUint_any (u : Nat) (w : World) (hu1 : 100 ≤ u) (hu64 : u < 18446744073709551616) (htab : Tab w) :
    Calls Tryd.prog 59 #[.int .u64 u, .int .i64 10] w fun e w' => ∃ t : ByteArray, e = .returned (.string t) ∧ Hid (Tx t (decS u)) ∧ Nx w w' := by
  have hu2 : (u : Int) ≤ 18446744073709551615 := by omega
  go_enter Tryd.func59, Tryd.ntmps59
  go_wp2_with fail
  refine (formatUint_in u _ hu1 hu64 htab).mono ?_; rintro e w1 ⟨t, rfl, ht, hw⟩
  go_wp2_with fail
  go_ret
  exact ⟨t, rfl, ht, hw⟩
end Go.Proofs.YtddolmkmijkpiaaDoor
