/- OrderStays: the normal form of a set of small numbers, from a row of one's own; two rows of the same numbers have one normal form. -/
import Derived.Test.YtjeadmndnbggmaaOrY
import Derived.Test.YtjeadmndnbggmaaOrWk
set_option linter.unusedVariables false
set_option linter.unusedSimpArgs false
namespace Go.Proofs.Ytjeadmndnbggmaa
open Go.RowKit

def aS (z : List Int) : List ValS := z.map (leafS 3)
theorem aS_len (z : List Int) : (aS z).length = z.length := List.length_map ..
theorem aS_rd (n : Nat) (w : World) : ∀ (q : List Int) (i : Nat) (h1 : i < (aS q).length) (h2 : i < (q.map (leafV 3)).length), RdV (n + 1) w (aS q)[i] (q.map (leafV 3))[i]
  | [], i, h1, _ => absurd h1 (by simp [aS])
  | p :: r, 0, _, _ => RdV.leaf n w 3 p
  | p :: r, i + 1, h1, h2 => aS_rd n w r i (Nat.lt_of_succ_lt_succ h1) (Nat.lt_of_succ_lt_succ h2)
theorem set_rd {w : World} {B : Nat} {v : Value} {q : List Int} (h : OwnS valA 5 29 w B v (aS q)) : RdV 2 w ⟨14, 0, [], v, .slice none 0 0⟩ (.mk 14 0 [] (q.map (leafV 3)) []) :=
  ⟨rfl, rfl, rfl, RdL.own h (by rw [aS_len, List.length_map]) (aS_rd 0 w q), RdI.nil_ _⟩
theorem small {q : List Int} (h : ∀ x ∈ q, -128 ≤ x ∧ x ≤ 127) : ∀ x ∈ q, -9223372036854775808 ≤ x ∧ x ≤ 9223372036854775807 := fun x hx => by have := h x hx; omega
/-- the normal form of a set of numbers, whatever holds it -/
theorem setN (w : World) (x : ValS) (q : List Int) (hx : RdV 2 w x (.mk 14 0 [] (q.map (leafV 3)) [])) (hq : ∀ x ∈ q, -128 ≤ x ∧ x ≤ 127) (hl : q.length ≤ 39) :
    Calls Try.prog 5 #[.agg (valA x)] w fun e w' => ∃ y, e = .returned (.tuple #[.agg (valA y), .int .i64 0]) ∧ RdV 2 w' y (.mk 14 0 [] ((srt q).map (leafV 3)) []) ∧ IsSlv y.l ∧ IsSlv y.ids ∧ Nx w w' := by
  have h := norm14_more 1 w x (q.map (leafV 3)) [] hx (leafs_ok (by decide) (small hq)) (by rw [List.length_map]; exact hl) rfl
  rw [norm_set 0 (by decide) q] at h
  refine h.mono ?_
  rintro e w' ⟨y, rfl, h1, h2, h3, h4⟩
  exact ⟨y, rfl, h1 rfl, h2, h3, h4⟩
/-- the same numbers, one order -/
theorem srt_iff {a b : List Int} (h : ∀ x, x ∈ a ↔ x ∈ b) : srt a = srt b := up_uniq (srt_up _) (srt_up _) fun t => by rw [srt_mem, srt_mem]; exact h t
theorem srt_twice (a : List Int) : srt (srt a) = srt a := srt_iff fun x => srt_mem ..
theorem cmpL_selfN (k : Nat) (hk : intK k = true) : ∀ l : List Int, cmpL (cmpV 1) (l.map (leafV k)) (l.map (leafV k)) = 0
  | [] => rfl
  | x :: r => by
    have h : cmpV 1 (leafV k x) (leafV k x) = 0 := by
      show (if k ≠ k then _ else if intK k = true then cmpI x x else _) = (0 : Int)
      rw [if_neg (fun h => h rfl), if_pos hk, cmpI_self]
    show (if cmpV 1 (leafV k x) (leafV k x) = 0 then cmpL (cmpV 1) (r.map (leafV k)) (r.map (leafV k)) else _) = 0
    rw [if_pos h]; exact cmpL_selfN k hk r
/-- order.Is of the normal form of numbers -/
theorem isN (hI : ∀ n, IsC n) (w : World) (x : ValS) (q : List Int) (hx : RdV 2 w x (.mk 14 0 [] (q.map (leafV 3)) [])) (hq : ∀ x ∈ q, -128 ≤ x ∧ x ≤ 127) (hs : srt q = q) (hl : q.length ≤ 10) :
    Calls Try.prog 7 #[.agg (valA x)] w fun e w' => e = .returned (.bool true) ∧ Nx w w' := by
  have h := hI 2 w x _ hx ⟨by decide, rfl, by decide, .inr (.inr rfl), .inr rfl, .inl rfl, by rw [List.length_map]; omega, leafs_ok (by decide) (small hq)⟩ (leafs_okV 0 (by decide) (by decide) (by decide) (small hq) [])
  rw [norm_set 0 (by decide) q, hs] at h
  have hc : cmpV 2 (.mk 14 0 [] (q.map (leafV 3)) []) (.mk 14 0 [] (q.map (leafV 3)) []) = 0 := cmpL_selfN 3 (by decide) q
  rw [hc] at h
  exact h
/-- what a row of numbers reads as, each -/
theorem RdL.leafN {w : World} {n k : Nat} {A : Option Addr} {u c : Nat} {l : List Int} (h : RdL (RdV (n + 1) w) w (.slice A u c) (l.map (leafV k))) :
    u = l.length ∧ (0 < l.length → ∃ g off, A = some ⟨g, off, none⟩ ∧ g < w.heap.size ∧ ∀ i (hi : i < l.length), w.cell? ⟨g, off + i * 5 + 1, none⟩ = some (.int .i64 l[i])) := by
  refine ⟨?_, fun hpos => ?_⟩
  · obtain ⟨A', c', ys, e, -⟩ := h
    simp only [Value.slice.injEq, List.length_map] at e
    exact e.2.1
  · obtain ⟨g, off, c', e, -, hg, hc⟩ := RdL.leaf_at h hpos
    simp only [Value.slice.injEq] at e
    exact ⟨g, off, e.1, hg, hc⟩
end Go.Proofs.Ytjeadmndnbggmaa
