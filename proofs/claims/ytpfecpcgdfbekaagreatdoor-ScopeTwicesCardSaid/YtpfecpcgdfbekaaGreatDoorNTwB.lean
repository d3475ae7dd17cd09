/- Which name stands twice first in ScopeTwices' made texts. Plain. -/
import Derived.Test.YtpfecpcgdfbekaaGreatDoorNTwA
import Derived.Test.YtpfecpcgdfbekaaGreatDoorG36
set_option linter.unusedVariables false
set_option linter.unusedSimpArgs false
namespace Go.Proofs.YtpfecpcgdfbekaaGreatDoor

def fI : List (List UInt8) → Nat → List UInt8 → Option Nat
  | [], _, _ => none
  | y :: r, j, x => if y = x then some j else fI r (j + 1) x
theorem fI_lt : ∀ {pre : List (List UInt8)} {x : List UInt8} (suf : List (List UInt8)) (j : Nat), x ∈ pre → ∃ p, fI (pre ++ suf) j x = some p ∧ p < j + pre.length
  | [], _, _, _, h => by cases h
  | y :: r, x, suf, j, h => by
    show ∃ p, (if y = x then some j else fI (r ++ suf) (j + 1) x) = some p ∧ _
    by_cases e : y = x
    · rw [if_pos e]; exact ⟨j, rfl, by simp⟩
    · rw [if_neg e]
      obtain ⟨p, h1, h2⟩ := fI_lt suf (j + 1) ((List.mem_cons.1 h).resolve_left (fun h => e h.symm))
      exact ⟨p, h1, by rw [List.length_cons]; omega⟩
theorem fI_at : ∀ {pre : List (List UInt8)} {x : List UInt8} (suf : List (List UInt8)) (j : Nat), x ∉ pre → fI (pre ++ x :: suf) j x = some (j + pre.length)
  | [], x, suf, j, _ => if_pos rfl
  | y :: r, x, suf, j, h => by
    show (if y = x then some j else fI (r ++ x :: suf) (j + 1) x) = _
    rw [if_neg (fun e => h (by simp [e])), fI_at suf (j + 1) (fun e => h (by simp [e])), List.length_cons]
    congr 1; omega
theorem getG_put {κ ν : Type} [DecidableEq κ] : ∀ (m : List (κ × ν)) (k k' : κ) (v : ν), getG (putG m k v) k' = if k = k' then some v else getG m k'
  | [], k, k', v => rfl
  | x :: r, k, k', v => by
    unfold putG
    by_cases h : x.1 = k
    · rw [if_pos h]
      show (if k = k' then some v else getG r k') = if k = k' then some v else if x.1 = k' then some x.2 else getG r k'
      by_cases h2 : k = k'
      · rw [if_pos h2, if_pos h2]
      · rw [if_neg h2, if_neg h2, if_neg (by rw [h]; exact h2)]
    · rw [if_neg h]
      show (if x.1 = k' then some x.2 else getG (putG r k v) k') = if k = k' then some v else if x.1 = k' then some x.2 else getG r k'
      rw [getG_put r k k' v]
      by_cases h2 : x.1 = k'
      · rw [if_pos h2, if_pos h2, if_neg (fun e => h (h2.trans e.symm))]
      · rw [if_neg h2, if_neg h2]
theorem fstD_get (i : Nat) : ∀ (ds : List Dfn) (j : Nat) (m : MS) (x : List UInt8), getG (fstD i j ds m) ((i : Int), x) = match getG m ((i : Int), x) with
    | some v => some v
    | none => fI (ds.map Dfn.nm) j x
  | [], j, m, x => by
    show getG m _ = _
    cases getG m ((i : Int), x) <;> rfl
  | d :: r, j, m, x => by
    show getG (fstD i (j + 1) r _) _ = _
    rw [fstD_get i r (j + 1)]
    show _ = match getG m ((i : Int), x) with
    | some v => some v
    | none => if d.nm = x then some j else fI (r.map Dfn.nm) (j + 1) x
    by_cases h : (getG m ((i : Int), d.nm)).isSome = true
    · rw [if_pos h]
      by_cases e : d.nm = x
      · subst e
        obtain ⟨v, hv⟩ := Option.isSome_iff_exists.1 h
        rw [hv]
      · rw [if_neg e]
    · rw [if_neg h, getG_put]
      by_cases e : d.nm = x
      · subst e
        rw [if_pos rfl, if_pos rfl]
        cases hg : getG m ((i : Int), d.nm) with
        | none => rfl
        | some v => rw [hg] at h; exact absurd rfl h
      · rw [if_neg (fun h => e (Prod.mk.inj h).2), if_neg e]
/-- the first name that stands twice -/
def wo : List (List UInt8) → List (List UInt8) → Option (List UInt8)
  | _, [] => none
  | s, x :: r => if x ∈ s then some x else wo (s ++ [x]) r
theorem wo_snoc : ∀ (a s : List (List UInt8)) (x : List UInt8), wo s (a ++ [x]) = match wo s a with
    | some y => some y
    | none => if x ∈ s ++ a then some x else none
  | [], s, x => by
    rw [List.append_nil]
    show (if x ∈ s then some x else none) = _
    rfl
  | y :: r, s, x => by
    show (if y ∈ s then some y else wo (s ++ [y]) (r ++ [x])) = match (if y ∈ s then some y else wo (s ++ [y]) r) with
    | some y => some y
    | none => if x ∈ s ++ y :: r then some x else none
    by_cases h : y ∈ s
    · rw [if_pos h, if_pos h]
    · rw [if_neg h, if_neg h, wo_snoc r, List.append_assoc]; rfl
theorem wo_mem : ∀ {a s : List (List UInt8)} {y : List UInt8}, wo s a = some y → y ∈ a
  | x :: r, s, y, h => by
    unfold wo at h
    split at h
    · cases h; simp
    · exact List.mem_cons_of_mem _ (wo_mem h)
theorem twD_wo {m : MS} : ∀ (suf : List Dfn) (pre : List (List UInt8)), (∀ x, getG m ((0 : Nat), x) = fI (pre ++ suf.map Dfn.nm) 0 x) → twD m 0 pre.length suf = wo pre (suf.map Dfn.nm)
  | [], _, _ => rfl
  | d :: r, pre, hm => by
    show (if (getG m (((0 : Nat) : Int), d.nm)).getD 0 < pre.length then some d.nm else twD m 0 (pre.length + 1) r) = if d.nm ∈ pre then some d.nm else wo (pre ++ [d.nm]) (r.map Dfn.nm)
    rw [hm]
    by_cases h : d.nm ∈ pre
    · obtain ⟨p, h1, h2⟩ := fI_lt ((d :: r).map Dfn.nm) 0 h
      rw [h1, if_pos h, if_pos (by simpa using h2)]
    · rw [List.map_cons, fI_at _ 0 h, if_neg h, if_neg (by simp)]
      have := twD_wo (m := m) r (pre ++ [d.nm]) (fun x => by rw [hm, List.map_cons, List.append_assoc]; rfl)
      rw [← this, List.length_append]; rfl
/-- the names of a made text -/
def tN (l : List UInt8) : List (List UInt8) := l.map fun x => tn (x.toNat % 6)
theorem tE_nm (x : UInt8) : (tE x).nm = tn (x.toNat % 6) := by
  unfold tE tD
  split
  · rfl
  · split
    · rfl
    · split <;> rfl
theorem tF_nm (l : List UInt8) : (tF l).defs.map Dfn.nm = tN l := by
  show (l.map tE).map Dfn.nm = _
  rw [List.map_map]
  exact List.map_congr_left fun x _ => tE_nm x
def tO (l : List UInt8) : Option (List UInt8) := wo [] (tN l)
theorem tO_twice (l : List UInt8) : twP [[102]] [tF l] = (tO l).map fun t => ([102], t) := by
  have h := twD_wo (m := fstM [tF l]) (tF l).defs [] (fun x => by
    show getG (fstD 0 0 (tF l).defs []) (((0 : Nat) : Int), x) = _
    rw [fstD_get]; rfl)
  rw [tF_nm] at h
  have h2 : twD (fstM [tF l]) 0 0 (tF l).defs = tO l := h
  unfold twP twF
  rw [h2]
  cases tO l with
  | none => rfl
  | some y => rfl
theorem tO_step {l : List UInt8} {i : Nat} (hi : i < l.length) : tO (l.take (i + 1)) = match tO (l.take i) with
    | some y => some y
    | none => if tn (l[i].toNat % 6) ∈ tN (l.take i) then some (tn (l[i].toNat % 6)) else none := by
  unfold tO
  rw [List.take_succ_eq_append_getElem hi, show tN (l.take i ++ [l[i]]) = tN (l.take i) ++ [tn (l[i].toNat % 6)] by unfold tN; rw [List.map_append]; rfl, wo_snoc, List.nil_append]
theorem tO_ne {l : List UInt8} {y : List UInt8} (h : tO l = some y) : ∃ a b, y = [a, b] := by
  obtain ⟨x, -, rfl⟩ := List.mem_map.1 (wo_mem h)
  exact ⟨_, _, rfl⟩
theorem tS_step {l : List UInt8} {i : Nat} (hi : i < l.length) : tS (l.take (i + 1)) = tS (l.take i) ++ tL l[i] := by
  unfold tS
  rw [List.take_succ_eq_append_getElem hi, List.flatMap_append]
  simp
/-- which names have been seen -/
def tB (l : List UInt8) (k : Nat) : Bool := decide (tn k ∈ tN l)
theorem tB_step {l : List UInt8} {i k : Nat} (hi : i < l.length) (hk : k < 6) : tB (l.take (i + 1)) k = (decide (k = l[i].toNat % 6) || tB (l.take i) k) := by
  unfold tB
  rw [List.take_succ_eq_append_getElem hi, show tN (l.take i ++ [l[i]]) = tN (l.take i) ++ [tn (l[i].toNat % 6)] by unfold tN; rw [List.map_append]; rfl]
  rw [Bool.eq_iff_iff]
  simp only [List.mem_append, List.mem_singleton, decide_eq_true_eq, Bool.or_eq_true]
  constructor
  · rintro (h | h)
    · exact .inr h
    · exact .inl (tn_inj k hk _ (Nat.mod_lt _ (by decide)) h)
  · rintro (rfl | h)
    · exact .inr rfl
    · exact .inl h
end Go.Proofs.YtpfecpcgdfbekaaGreatDoor
