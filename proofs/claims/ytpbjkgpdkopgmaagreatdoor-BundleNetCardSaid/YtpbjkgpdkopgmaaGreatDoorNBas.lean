/- What is known of a slice of bytes that came in. -/
import Derived.Test.YtpbjkgpdkopgmaaGreatDoorG00
set_option linter.unusedVariables false
set_option linter.unusedSimpArgs false
namespace Go.Proofs.YtpbjkgpdkopgmaaGreatDoor
open Go.RowKit

theorem bv_ofNat (n : Nat) (k : Int) (h : k = ((n % 256 : Nat) : Int)) : Value.int .u8 k = bv (UInt8.ofNat n) := by
  subst h; simp [bv, UInt8.toNat_ofNat]
/-- what is known of a slice of bytes that came in -/
def RowBytes (w : World) (A : Option Addr) (len cap : Nat) : Prop := ∃ xs : List UInt8, len = xs.length ∧ Rd bv w A xs ∧ xs.length ≤ cap ∧ cap ≤ maxLen
theorem row_bytes_nil (w : World) : RowBytes w none 0 0 := ⟨[], rfl, Rd.nil, Nat.le_refl _, Nat.zero_le _⟩
/-- what is known of a slice of integers that came in -/
def RowInts (k : IntKind) (w : World) (A : Option Addr) (len cap : Nat) : Prop :=
  ∃ xs : List Int, len = xs.length ∧ Rd (Value.int k) w A xs ∧ xs.length ≤ cap ∧ cap ≤ maxLen ∧ ∀ n ∈ xs, (Lit.int k n).wf = true
theorem row_ints_nil {k : IntKind} (w : World) : RowInts k w none 0 0 := ⟨[], rfl, Rd.nil, Nat.le_refl _, Nat.zero_le _, fun _ h => by cases h⟩
theorem row_ints {k : IntKind} (w : World) (x : Addr) (len cap : Nat) (zs : List Int) (hl : len ≤ cap) (hm : cap ≤ maxLen) (hz : zs.length = cap)
    (hcell : ∀ i, i < zs.length → w.cell? (x.add i) = some (.int k (zs.getD i 0))) (hwz : ∀ n ∈ zs, (Lit.int k n).wf = true) : RowInts k w (some x) len cap := by
  have hlen : (zs.take len).length = len := by rw [List.length_take]; omega
  refine ⟨zs.take len, hlen.symm, fun hn => ?_, by omega, hm, fun n h => hwz n (List.mem_of_mem_take h)⟩
  rw [hlen] at hn
  obtain ⟨b, off, sp⟩ := x
  have h0 := hcell 0 (by omega)
  have hsp : sp = none := by simpa [Addr.add] using World.cell?_spot h0
  subst hsp
  refine ⟨b, off, rfl, ?_, fun j hj => ?_⟩
  · have := World.block_lt_of_cell? w _ h0
    simpa [Addr.add] using this
  · rw [hlen] at hj
    have := hcell j (by omega)
    rw [Addr.add_lit] at this
    rw [this, List.getElem_take]
    have hj' : j < zs.length := by omega
    simp [List.getD, hj']
theorem row_bytes (w : World) (x : Addr) (len cap : Nat) (zs : List Int) (hl : len ≤ cap) (hm : cap ≤ maxLen) (hz : zs.length = cap)
    (hcell : ∀ i, i < zs.length → w.cell? (x.add i) = some (.int .u8 (zs.getD i 0))) (hwz : ∀ n ∈ zs, (Lit.int .u8 n).wf = true) : RowBytes w (some x) len cap := by
  obtain ⟨xs, h1, h2, h3, h4, h5⟩ := row_ints (k := .u8) w x len cap zs hl hm hz hcell hwz
  refine ⟨xs.map fun n => UInt8.ofNat n.toNat, by simpa using h1, fun hn => ?_, by simpa using h3, h4⟩
  rw [List.length_map] at hn
  obtain ⟨b, off, e, hb, hc⟩ := h2 hn
  refine ⟨b, off, e, hb, fun j hj => ?_⟩
  rw [List.length_map] at hj
  rw [hc j hj, List.getElem_map]
  have hw := h5 _ (List.getElem_mem hj)
  generalize xs[j] = n at hw
  have h01 : 0 ≤ n ∧ n ≤ 255 := by
    simp [Lit.wf, IntKind.min, IntKind.max, IntKind.signed, IntKind.bits] at hw
    omega
  rw [← bv_ofNat n.toNat n (by omega)]
end Go.Proofs.YtpbjkgpdkopgmaaGreatDoor
