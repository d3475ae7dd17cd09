/- An array of five slices of bytes that came in, opened. Plain lemmas. -/
import Derived.Test.YtpbjkgpdkopgmaaGreatDoorRows
import Derived.Test.YtpbjkgpdkopgmaaGreatDoorG00
import Derived.Test.YtpbjkgpdkopgmaaGreatDoorNBas
import Derived.Test.YtpbjkgpdkopgmaaGreatDoorProg
import Derived.WalkKit
import Derived.ProofKit
import Derived.OpenShut
import Derived.ChangeOld
set_option linter.unusedVariables false
set_option linter.unusedSimpArgs false
namespace Go.Proofs.YtpbjkgpdkopgmaaGreatDoor
open Go.ChangeShapes Go.WideShapes Go.ChangeAt Go.RowKit

set_option maxRecDepth 100000 in
theorem okWide5 {W : World} {r : Reach} {base : Nat} {v : Value} (h : Value.okWide Tryz.prog W r base 56 v) : ∃ cs, v = .agg cs ∧ cs.size = 5 := by
  simp only [Value.okWide, Tryz.underlying56] at h
  obtain ⟨cs, h1, h2, _⟩ := h
  exact ⟨cs, h1, h2.trans (by kernel_rfl)⟩
set_option maxRecDepth 100000 in
theorem one5 {H : Type} {enc : TypeId × Value → H} {W : World} {held : Bool} {m : Nat} {c : Value} {y : DataW H × List MemPlace} (h : DataW.trod enc Tryz.prog W 0 (fun _ => true) held m 22 [c] = some y) :
    ∃ a len cap, c = .slice a len cap ∧ RowBytes W a len cap := by
  rcases open_ints Tryz.underlying22 Tryz.underlying5 (by kernel_rfl) h with ⟨hcs, _⟩ | ⟨x, l, cp, zs, hcs, _, hl, hm, hz, _, hcell, hwz⟩
  · simp at hcs
    exact ⟨none, 0, 0, hcs, row_bytes_nil _⟩
  · simp at hcs
    exact ⟨some x, l, cp, hcs, row_bytes _ _ _ _ zs hl hm (by simpa using hz) hcell hwz⟩
set_option maxRecDepth 100000 in
theorem open5 {H : Type} {enc : TypeId × Value → H} {W : World} {held : Bool} {cs : Array Value} {d : DataW H} {ps : List MemPlace} (hsz : cs.size = 5) (h : DataW.Trod enc Tryz.prog W 0 (fun _ => true) held 56 (.agg cs) d ps) :
    ∃ (A : Nat → Option Addr) (n c : Nat → Nat) (L : Nat → List UInt8), cs = #[.slice (A 0) (n 0) (c 0), .slice (A 1) (n 1) (c 1), .slice (A 2) (n 2) (c 2), .slice (A 3) (n 3) (c 3), .slice (A 4) (n 4) (c 4)] ∧ ∀ i, i < 5 → Rd bv W (A i) (L i) ∧ (L i).length = n i := by
  obtain ⟨fuel, hf⟩ := h
  obtain ⟨xs, m, -, -, -, hxl, hall⟩ := DataW.trod_array Tryz.underlying56 hf
  have hc1 : Tryz.prog.cellsOf 22 = 1 := by kernel_rfl
  have key : ∀ i, ∃ q : Option Addr × Nat × Nat × List UInt8, i < 5 → cs[i]? = some (.slice q.1 q.2.1 q.2.2.1) ∧ Rd bv W q.1 q.2.2.2 ∧ q.2.2.2.length = q.2.1 := by
    intro i
    by_cases hi : i < 5
    · have h1 := hall i hi
      rw [hc1, Nat.mul_one] at h1
      have h2 : ((Value.cells (.agg cs)).toList.drop i).take 1 = [cs[i]'(by omega)] := by
        show (cs.toList.drop i).take 1 = _
        rw [List.drop_eq_getElem_cons (by simpa using (show i < cs.size by omega))]
        simp
      rw [h2, List.getElem?_eq_getElem (by omega)] at h1
      obtain ⟨a, len, cap, hc, l, hll, hr, -, -⟩ := one5 h1
      refine ⟨(a, len, cap, l), fun _ => ⟨?_, hr, hll.symm⟩⟩
      rw [Array.getElem?_eq_getElem (by omega), hc]
    · exact ⟨(none, 0, 0, []), fun h => absurd h hi⟩
  obtain ⟨f, hff⟩ : ∃ f : Nat → Option Addr × Nat × Nat × List UInt8, ∀ i, i < 5 → cs[i]? = some (.slice (f i).1 (f i).2.1 (f i).2.2.1) ∧ Rd bv W (f i).1 (f i).2.2.2 ∧ (f i).2.2.2.length = (f i).2.1 := ⟨fun i => Classical.choose (key i), fun i hi => Classical.choose_spec (key i) hi⟩
  refine ⟨fun i => (f i).1, fun i => (f i).2.1, fun i => (f i).2.2.1, fun i => (f i).2.2.2, ?_, fun i hi => (hff i hi).2⟩
  apply Array.ext
  · simpa using hsz
  · intro i h1 h2
    have hi : i < 5 := by simpa using h2
    have hk := (hff i hi).1
    rw [Array.getElem?_eq_getElem h1] at hk
    have hk' := Option.some.inj hk
    rw [hk']
    rcases (show i = 0 ∨ i = 1 ∨ i = 2 ∨ i = 3 ∨ i = 4 by omega) with rfl | rfl | rfl | rfl | rfl <;> rfl
end Go.Proofs.YtpbjkgpdkopgmaaGreatDoor
