/- Numbers of fields that are in range and have names of their own. Plain. -/
import Derived.Test.YtpfecpcgdfbekaaFdP
set_option linter.unusedVariables false
set_option linter.unusedSimpArgs false
namespace Go.Proofs.Ytpfecpcgdfbekaa

def numsP : List Fd → Int → List Int
  | [], _ => []
  | f :: r, nx => fdN f nx :: numsP r (fdX f nx)
def nxP : List Fd → Int → Int
  | [], nx => nx
  | f :: r, nx => nxP r (fdX f nx)
def twB : List Fd → List Int → Bool
  | [], _ => false
  | f :: r, seen => if f.has = true then decide (f.id ∈ seen) || twB r (seen ++ [f.id]) else twB r seen
/-- the numbers of their own -/
def ownsP : List Fd → List Int
  | [] => []
  | f :: r => if f.has = true then f.id :: ownsP r else ownsP r
theorem numsP_len : ∀ (l : List Fd) (nx : Int), (numsP l nx).length = l.length
  | [], _ => rfl
  | f :: r, nx => by simp [numsP, numsP_len r]
theorem numsP_get : ∀ (l : List Fd) (nx : Int) (i : Nat) (h : i < l.length), (numsP l nx)[i]? = some (fdN l[i] (nxP (l.take i) nx))
  | f :: r, nx, 0, _ => rfl
  | f :: r, nx, i + 1, h => by
    show (numsP r (fdX f nx))[i]? = _
    rw [numsP_get r (fdX f nx) i (by simpa using h)]; rfl
theorem nxP_app : ∀ (l : List Fd) (nx : Int) (f : Fd), nxP (l ++ [f]) nx = fdX f (nxP l nx)
  | [], _, _ => rfl
  | g :: r, nx, f => by
    show nxP (r ++ [f]) (fdX g nx) = _
    rw [nxP_app r]; rfl
theorem twB_app : ∀ (l : List Fd) (s : List Int) (f : Fd), twB (l ++ [f]) s = (twB l s || (f.has && decide (f.id ∈ s ++ ownsP l)))
  | [], s, f => by
    simp only [List.nil_append, twB, ownsP, List.append_nil]
    by_cases h : f.has = true <;> simp [h]
  | g :: r, s, f => by
    simp only [List.cons_append, twB, ownsP]
    by_cases h : g.has = true
    · simp only [h, if_true]
      rw [twB_app r, Bool.or_assoc]
      simp [List.append_assoc]
    · simp only [h, if_false]
      exact twB_app r s f
theorem ownsP_app : ∀ (l : List Fd) (f : Fd), ownsP (l ++ [f]) = ownsP l ++ (if f.has = true then [f.id] else [])
  | [], f => by
    simp only [List.nil_append, ownsP]
  | g :: r, f => by
    simp only [List.cons_append, ownsP]
    by_cases h : g.has = true
    · simp [h, ownsP_app r]
    · simp [h, ownsP_app r]
theorem idsP_tw : ∀ (r : List Fd) (nx : Int) (ids : List Int) (ns : List (List UInt8)) (seen : List Int), (∀ f ∈ r, fdBad f = false) → (∀ f ∈ r, f.nm ∉ ns) → (r.map (·.nm)).Nodup → nx ≤ -1 → (∀ x ∈ ids, x < 0 → nx < x) → (∀ x, 1 ≤ x → (x ∈ ids ↔ x ∈ seen)) →
    idsP r nx ids ns = if twB r seen = true then ([], 8) else (ids ++ numsP r nx, 0)
  | [], nx, ids, ns, seen, _, _, _, _, _, _ => by simp [idsP, twB, numsP]
  | f :: r, nx, ids, ns, seen, h1, h2, h3, h4, h5, h6 => by
    have hb := h1 f (by simp)
    have hn := h2 f (by simp)
    simp only [List.map_cons, List.nodup_cons] at h3
    have hrest : ∀ g ∈ r, g.nm ∉ ns ++ [f.nm] := fun g hg hm => by
      rcases List.mem_append.1 hm with hm | hm
      · exact h2 g (by simp [hg]) hm
      · exact h3.1 (by rw [← List.mem_singleton.1 hm]; exact List.mem_map_of_mem hg)
    unfold idsP
    rw [if_neg (by rw [hb]; decide)]
    unfold twB
    by_cases hh : f.has = true
    · have hid : 1 ≤ f.id := by
        unfold fdBad at hb
        simp [hh] at hb
        omega
      have hfn : fdN f nx = f.id := by unfold fdN; rw [if_pos hh]
      have hfx : fdX f nx = nx := by unfold fdX; rw [if_pos hh]
      rw [hfn, hfx, if_pos hh]
      by_cases hm : f.id ∈ seen
      · rw [if_pos (.inl ((h6 _ hid).2 hm)), if_pos (by simp [hm])]
      · rw [if_neg (by rintro (h | h); exact hm ((h6 _ hid).1 h); exact hn h)]
        rw [idsP_tw r nx (ids ++ [f.id]) (ns ++ [f.nm]) (seen ++ [f.id]) (fun g hg => h1 g (by simp [hg])) hrest h3.2 h4 (fun x hx hx0 => by
            rcases List.mem_append.1 hx with hx | hx
            · exact h5 x hx hx0
            · have := List.mem_singleton.1 hx; omega)
          (fun x hx => by rw [List.mem_append, List.mem_append, h6 x hx])]
        simp only [hm, decide_false, Bool.false_or]
        have : numsP (f :: r) nx = f.id :: numsP r nx := by show fdN f nx :: numsP r (fdX f nx) = _; rw [hfn, hfx]
        rw [this]
        simp
    · have hfn : fdN f nx = nx := by unfold fdN; rw [if_neg hh]
      have hfx : fdX f nx = nx - 1 := by unfold fdX; rw [if_neg hh]
      rw [hfn, hfx, if_neg hh]
      rw [if_neg (by rintro (h | h); have := h5 nx h (by omega); omega; exact hn h)]
      rw [idsP_tw r (nx - 1) (ids ++ [nx]) (ns ++ [f.nm]) seen (fun g hg => h1 g (by simp [hg])) hrest h3.2 (by omega) (fun x hx hx0 => by
          rcases List.mem_append.1 hx with hx | hx
          · have := h5 x hx hx0; omega
          · have := List.mem_singleton.1 hx; omega)
        (fun x hx => by rw [List.mem_append, ← h6 x hx, List.mem_singleton]; constructor; rintro (h | h); exact h; omega; exact .inl)]
      have : numsP (f :: r) nx = nx :: numsP r (nx - 1) := by show fdN f nx :: numsP r (fdX f nx) = _; rw [hfn, hfx]
      rw [this]
      simp
theorem idsP_nodup : ∀ (r : List Fd) (nx : Int) (ids : List Int) (ns : List (List UInt8)), ids.Nodup → (idsP r nx ids ns).1.Nodup
  | [], _, _, _, h => h
  | f :: r, nx, ids, ns, h => by
    unfold idsP
    split
    · exact List.nodup_nil
    · split
      · exact List.nodup_nil
      · rename_i h2
        refine idsP_nodup r _ _ _ ?_
        rw [List.nodup_append]
        refine ⟨h, by simp, fun x hx y hy e => h2 (.inl ?_)⟩
        rw [← List.mem_singleton.1 hy, ← e]; exact hx
end Go.Proofs.Ytpfecpcgdfbekaa
