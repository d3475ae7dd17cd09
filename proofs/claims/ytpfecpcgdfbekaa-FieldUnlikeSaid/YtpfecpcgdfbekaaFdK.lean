/- The walk of FieldUnlike. -/
import Derived.Test.YtpfecpcgdfbekaaFdH
import Derived.Test.YtpfecpcgdfbekaaFdQ
set_option linter.unusedVariables false
set_option linter.unusedSimpArgs false
namespace Go.Proofs.Ytpfecpcgdfbekaa
open Go.RowKit

def unF (x : Int) (i : Nat) : Fd := ⟨decide (0 < x % 3), if 0 < x % 3 then 1 + x % 299 else 0, [UInt8.ofNat (97 + i)]⟩
def unL (z : List Int) (i : Nat) : List Fd := (List.range i).map fun k => unF (z.getD k 0) k
theorem unL_succ (z : List Int) (i : Nat) : unL z (i + 1) = unL z i ++ [unF (z.getD i 0) i] := by
  unfold unL; rw [List.range_succ, List.map_append]; rfl
theorem unL_len (z : List Int) (i : Nat) : (unL z i).length = i := by simp [unL]
def sawU (ids : List Int) : List Value := (List.range 300).map fun (k : Nat) => .bool (decide ((k : Int) ∈ ids))
theorem sawU_get (ids : List Int) (k : Nat) (h : k < 300) : (sawU ids).toArray[k]? = some (.bool (decide ((k : Int) ∈ ids))) := by simp [sawU, h]
theorem sawU_set (ids : List Int) (q : Nat) (h : q < 300) : ((sawU ids).toArray).setIfInBounds q (.bool true) = (sawU (ids ++ [(q : Int)])).toArray := by
  apply Array.ext_getElem?
  intro k
  rw [Array.getElem?_setIfInBounds]
  have hz : (sawU ids).toArray.size = 300 := by simp [sawU]
  rw [hz]
  by_cases hk : k < 300
  · rw [sawU_get _ _ hk, sawU_get _ _ hk]
    by_cases hk2 : q = k
    · subst hk2
      rw [if_pos rfl, if_pos h, decide_eq_true (List.mem_append_right _ (List.mem_singleton.2 rfl))]
    · rw [if_neg hk2]
      have hne : ¬ (k : Int) = (q : Int) := by omega
      simp only [List.mem_append, List.mem_singleton, hne, or_false]
  · have e : ∀ p, (sawU p).toArray[k]? = none := fun p => by simp [sawU]; omega
    rw [e, e, if_neg (by omega)]
theorem un_ids {z : List Int} {n : Nat} (hn : n ≤ 15) (hz : ∀ x ∈ z, 0 ≤ x) : idsP (unL z n) (-1) [] [] = if twB (unL z n) [] = true then ([], 8) else (numsP (unL z n) (-1), 0) := by
  have := idsP_tw (unL z n) (-1) [] [] [] (fun f hf => by
      obtain ⟨k, hk, rfl⟩ := List.mem_map.1 hf
      unfold unF fdBad
      dsimp only
      by_cases h : 0 < z.getD k 0 % 3
      · rw [if_pos h]
        have h1 : decide (1 ≤ 1 + z.getD k 0 % 299) = true := decide_eq_true (by omega)
        have h2 : decide (1 + z.getD k 0 % 299 ≤ 32767) = true := decide_eq_true (by omega)
        rw [h1, h2, decide_eq_true h]; rfl
      · rw [decide_eq_false h]; rfl) (fun f hf h => by cases h) (by
      unfold unL
      rw [List.map_map, List.Nodup, List.pairwise_map]
      refine List.Pairwise.imp_of_mem ?_ (List.nodup_range (n := n))
      intro a b ha hb hab e
      have ha := List.mem_range.1 ha
      have hb := List.mem_range.1 hb
      simp only [Function.comp, unF, List.cons.injEq, and_true] at e
      have := congrArg UInt8.toNat e
      simp only [UInt8.toNat_ofNat'] at this
      omega) (by omega) (fun x hx => by cases hx) (fun x hx => by simp)
  simpa using this
theorem RdF.of {w : World} {A : Option Addr} {fs : List Fd} (h : RdS (fun f => fdV f fz) 11 w A fs) : RdF w A fs := fun h0 => by
  obtain ⟨g, e, hg, hc⟩ := h h0
  exact ⟨g, 0, e, hg, fun i hi => ⟨fz, fun j hj => by rw [Nat.zero_add]; exact hc i hi j hj⟩⟩
theorem infoF : (Try.prog.info? 39).map (fun i => (i.zero, i.size, i.bytes)) = some (some (.agg (fdV ⟨false, 0, []⟩ fz)), 11, 128) := by kernel_rfl
end Go.Proofs.Ytpfecpcgdfbekaa
