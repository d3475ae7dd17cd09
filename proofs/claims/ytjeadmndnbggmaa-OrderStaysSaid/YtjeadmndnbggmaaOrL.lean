/- Sets', maps' and structs' normal forms, told by their members. Plain. -/
import Derived.Test.YtjeadmndnbggmaaOrK
import Derived.Test.YtjeadmndnbggmaaOrR
set_option linter.unusedVariables false
set_option linter.unusedSimpArgs false
namespace Go.Proofs.Ytjeadmndnbggmaa

/-- what numbers rise by -/
def kv : Val → Int
  | .mk k a _ _ _ => (k : Int) * 36893488147419103232 + a
theorem kv_lf (y : ValS) : kv (lfV y) = ky y := rfl
theorem kv_inj {x y : Val} (hx : leafOk x) (hy : leafOk y) (h : kv x = kv y) : x = y := by
  obtain ⟨k, a, s, l, i⟩ := x
  obtain ⟨k', a', s', l', i'⟩ := y
  obtain ⟨h1, h2, rfl, rfl, rfl⟩ := hx
  obtain ⟨h3, h4, rfl, rfl, rfl⟩ := hy
  have h : (k : Int) * 36893488147419103232 + a = (k' : Int) * 36893488147419103232 + a' := h
  have e1 : k = k' := by omega
  have e2 : a = a' := by omega
  subst e1; subst e2; rfl
theorem kv_cmp (n : Nat) {x y : Val} (hx : leafOk x) (hy : leafOk y) : cmpV (n + 1) x y = cmpI (kv x) (kv y) := by
  obtain ⟨k, a, s, l, i⟩ := x
  obtain ⟨k', a', s', l', i'⟩ := y
  obtain ⟨h1, h2, rfl, rfl, rfl⟩ := hx
  obtain ⟨h3, h4, rfl, rfl, rfl⟩ := hy
  unfold cmpV
  show _ = cmpI ((k : Int) * 36893488147419103232 + a) ((k' : Int) * 36893488147419103232 + a')
  by_cases h : k = k'
  · rw [if_neg (fun hh => hh h), if_pos h1, h]
    exact cmpI_congr (by omega) (by omega)
  · rw [if_pos h]
    exact cmpI_congr (by omega) (by omega)
theorem cmpI_neg1 {a b : Int} : cmpI a b < 0 ↔ a < b := by unfold cmpI; split <;> (try split) <;> omega
/-- sets -/
theorem insV_kv (n : Nat) {x : Val} (hx : leafOk x) : ∀ {l : List Val}, (∀ y ∈ l, leafOk y) → (insV (cmpV (n + 1)) x l).map kv = insI (kv x) (l.map kv) ∧ ∀ y ∈ insV (cmpV (n + 1)) x l, y = x ∨ y ∈ l
  | [], _ => ⟨rfl, fun y hy => .inl (by simpa [insV] using hy)⟩
  | z :: r, h => by
    have hz := h z (by simp)
    obtain ⟨i1, i2⟩ := insV_kv n hx (l := r) fun y hy => h y (by simp [hy])
    rw [List.map_cons]
    unfold insV insI
    rw [kv_cmp n hx hz]
    by_cases a : kv x < kv z
    · rw [if_pos (cmpI_neg1.2 a), if_pos a]
      exact ⟨rfl, fun y hy => by simpa using hy⟩
    · rw [if_neg (fun hh => a (cmpI_neg1.1 hh)), if_neg a]
      by_cases b : kv x = kv z
      · rw [if_pos (cmpI_eq.2 b), if_pos b]
        exact ⟨rfl, fun y hy => .inr hy⟩
      · rw [if_neg (fun hh => b (cmpI_eq.1 hh)), if_neg b]
        refine ⟨by rw [List.map_cons, i1], fun y hy => ?_⟩
        rcases List.mem_cons.1 hy with rfl | hy
        · exact .inr (by simp)
        · rcases i2 y hy with rfl | hy
          · exact .inl rfl
          · exact .inr (by simp [hy])
theorem setV_kv (n : Nat) : ∀ {l acc : List Val}, (∀ y ∈ l, leafOk y) → (∀ y ∈ acc, leafOk y) →
    (l.foldl (fun acc x => insV (cmpV (n + 1)) x acc) acc).map kv = (l.map kv).foldl (fun acc x => insI x acc) (acc.map kv) ∧ ∀ y ∈ l.foldl (fun acc x => insV (cmpV (n + 1)) x acc) acc, leafOk y
  | [], acc, _, h => ⟨rfl, h⟩
  | x :: r, acc, hl, h => by
    obtain ⟨a, b⟩ := insV_kv n (hl x (by simp)) h
    obtain ⟨c, d⟩ := setV_kv n (l := r) (acc := insV (cmpV (n + 1)) x acc) (fun y hy => hl y (by simp [hy])) (fun y hy => by
      rcases b y hy with rfl | hy
      · exact hl y (by simp)
      · exact h y hy)
    refine ⟨?_, d⟩
    rw [List.foldl_cons, c, a]; rfl
theorem kv_list : ∀ {l m : List Val}, (∀ y ∈ l, leafOk y) → (∀ y ∈ m, leafOk y) → l.map kv = m.map kv → l = m
  | [], [], _, _, _ => rfl
  | [], _ :: _, _, _, h => by cases h
  | _ :: _, [], _, _, h => by cases h
  | x :: l, y :: m, h1, h2, h => by
    rw [List.map_cons, List.map_cons, List.cons.injEq] at h
    rw [kv_inj (h1 x (by simp)) (h2 y (by simp)) h.1, kv_list (fun z hz => h1 z (by simp [hz])) (fun z hz => h2 z (by simp [hz])) h.2]
theorem once_set {us xs : List ValS} (h : Once us xs) (hok : ∀ x ∈ xs, OkS x) (n : Nat) : us.map lfV = setV (cmpV (n + 1)) (xs.map lfV) := by
  have hl : ∀ y ∈ xs.map lfV, leafOk y := fun y hy => by
    obtain ⟨z, hz, rfl⟩ := List.mem_map.1 hy
    exact (hok z hz).leaf
  obtain ⟨a, b⟩ := setV_kv n (l := xs.map lfV) (acc := []) hl (fun y hy => by cases hy)
  refine kv_list (fun y hy => ?_) b ?_
  · obtain ⟨z, hz, rfl⟩ := List.mem_map.1 hy
    exact (hok z (h.2.2 z hz)).leaf
  · show _ = (setV (cmpV (n + 1)) (xs.map lfV)).map kv
    unfold setV
    rw [a]
    refine up_uniq (List.pairwise_map.2 (List.pairwise_map.2 (h.1.imp fun {a b} hh => hh))) (srt_up _) fun t => ?_
    rw [show (List.foldl (fun acc x => insI x acc) (List.map kv []) (List.map kv (List.map lfV xs))) = srt ((xs.map lfV).map kv) from rfl, srt_mem]
    have := h.2.1 t
    simp only [List.map_map, List.mem_map, Function.comp, kv_lf]
    exact this
/-- maps -/
def flatV (ps : List (Val × Val)) : List Val := ps.flatMap fun p => [p.1, p.2]
def lf2 (p : ValS × ValS) : Val × Val := (lfV p.1, lfV p.2)
def Ok2 (p : Val × Val) : Prop := leafOk p.1 ∧ leafOk p.2
def Up2 (l : List (Val × Val)) : Prop := l.Pairwise fun a b => kv a.1 < kv b.1
def Cons2 (l : List (Val × Val)) : Prop := ∀ p ∈ l, ∀ q ∈ l, p.1 = q.1 → p.2 = q.2
theorem insM_spec (n : Nat) {k v : Val} (hk : leafOk k) (hv : leafOk v) : ∀ {acc : List (Val × Val)}, (∀ p ∈ acc, Ok2 p) → Up2 acc →
    (insM (cmpV (n + 1)) k v (flatV acc) = none ∧ ∃ p ∈ acc, p.1 = k ∧ p.2 ≠ v) ∨ ∃ acc' : List (Val × Val), insM (cmpV (n + 1)) k v (flatV acc) = some (flatV acc') ∧ Up2 acc' ∧ ∀ y, y ∈ acc' ↔ y = (k, v) ∨ y ∈ acc
  | [], _, _ => .inr ⟨[(k, v)], rfl, List.pairwise_singleton _ _, fun y => by simp⟩
  | p :: r, h, hu => by
    obtain ⟨hp1, hp2⟩ := h p (by simp)
    obtain ⟨u1, u2⟩ := List.pairwise_cons.1 hu
    show (insM (cmpV (n + 1)) k v (p.1 :: p.2 :: flatV r) = none ∧ _) ∨ ∃ acc' : List (Val × Val), insM (cmpV (n + 1)) k v (p.1 :: p.2 :: flatV r) = some (flatV acc') ∧ _
    unfold insM
    rw [kv_cmp n hk hp1, kv_cmp n hv hp2]
    by_cases a : kv k < kv p.1
    · rw [if_pos (cmpI_neg1.2 a)]
      refine .inr ⟨(k, v) :: p :: r, rfl, List.pairwise_cons.2 ⟨fun y hy => ?_, hu⟩, fun y => by simp⟩
      rcases List.mem_cons.1 hy with rfl | hy
      · exact a
      · exact Int.lt_trans a (u1 y hy)
    · rw [if_neg (fun hh => a (cmpI_neg1.1 hh))]
      by_cases b : kv k = kv p.1
      · have e := kv_inj hk hp1 b
        rw [if_pos (cmpI_eq.2 b)]
        by_cases c : kv v = kv p.2
        · rw [if_pos (cmpI_eq.2 c)]
          have e2 := kv_inj hv hp2 c
          refine .inr ⟨p :: r, rfl, hu, fun y => ?_⟩
          constructor
          · exact .inr
          · rintro (rfl | hy)
            · rw [e, e2]; simp
            · exact hy
        · rw [if_neg (fun hh => c (cmpI_eq.1 hh))]
          exact .inl ⟨rfl, p, by simp, e.symm, fun hh => c (by rw [hh])⟩
      · rw [if_neg (fun hh => b (cmpI_eq.1 hh))]
        rcases insM_spec n hk hv (acc := r) (fun q hq => h q (by simp [hq])) u2 with ⟨e, q, hq, e1, e2⟩ | ⟨acc', e, hu', hm⟩
        · rw [e]; exact .inl ⟨rfl, q, by simp [hq], e1, e2⟩
        · rw [e]
          refine .inr ⟨p :: acc', rfl, List.pairwise_cons.2 ⟨fun y hy => ?_, hu'⟩, fun y => ?_⟩
          · rcases (hm y).1 hy with rfl | hy
            · show kv p.1 < kv k; omega
            · exact u1 y hy
          · rw [List.mem_cons, hm, List.mem_cons]
            constructor
            · rintro (h | h | h)
              · exact .inr (.inl h)
              · exact .inl h
              · exact .inr (.inr h)
            · rintro (h | h | h)
              · exact .inr (.inl h)
              · exact .inl h
              · exact .inr (.inr h)
theorem up_cons {l : List (Val × Val)} (h : Up2 l) : Cons2 l := by
  intro p hp q hq e
  obtain ⟨i, hi, rfl⟩ := List.getElem_of_mem hp
  obtain ⟨j, hj, rfl⟩ := List.getElem_of_mem hq
  rcases Nat.lt_trichotomy i j with h1 | h1 | h1
  · have := List.pairwise_iff_getElem.1 h i j hi hj h1
    rw [e] at this; omega
  · subst h1; rfl
  · have := List.pairwise_iff_getElem.1 h j i hj hi h1
    rw [e] at this; omega
theorem mapV_spec (n : Nat) : ∀ {l acc : List (Val × Val)}, (∀ p ∈ l, Ok2 p) → (∀ p ∈ acc, Ok2 p) → Up2 acc →
    (mapV (cmpV (n + 1)) (flatV acc) (flatV l) = none ∧ ∃ p q, (p ∈ acc ∨ p ∈ l) ∧ (q ∈ acc ∨ q ∈ l) ∧ p.1 = q.1 ∧ p.2 ≠ q.2) ∨ ∃ r : List (Val × Val), mapV (cmpV (n + 1)) (flatV acc) (flatV l) = some (flatV r) ∧ Up2 r ∧ ∀ y, y ∈ r ↔ y ∈ acc ∨ y ∈ l
  | [], acc, _, _, hu => .inr ⟨acc, by unfold flatV mapV; rfl, hu, fun y => by simp⟩
  | p :: r, acc, hl, ha, hu => by
    obtain ⟨hp1, hp2⟩ := hl p (by simp)
    show (mapV (cmpV (n + 1)) (flatV acc) (p.1 :: p.2 :: flatV r) = none ∧ _) ∨ ∃ r' : List (Val × Val), mapV (cmpV (n + 1)) (flatV acc) (p.1 :: p.2 :: flatV r) = some (flatV r') ∧ _
    rw [mapV]
    rcases insM_spec n hp1 hp2 ha hu with ⟨e, q, hq, e1, e2⟩ | ⟨acc', e, hu', hm⟩
    · rw [e]
      exact .inl ⟨rfl, q, p, .inl hq, .inr (by simp), e1, e2⟩
    · rw [e]
      have ha' : ∀ q ∈ acc', Ok2 q := fun q hq => by
        rcases (hm q).1 hq with rfl | hq
        · exact ⟨hp1, hp2⟩
        · exact ha q hq
      rcases mapV_spec n (l := r) (fun q hq => hl q (by simp [hq])) ha' hu' with ⟨e3, q1, q2, h1, h2, h3⟩ | ⟨r', e3, hu2, hm2⟩
      · refine .inl ⟨e3, q1, q2, ?_, ?_, h3⟩
        · rcases h1 with h1 | h1
          · rcases (hm q1).1 h1 with rfl | h1
            · exact .inr (by simp)
            · exact .inl h1
          · exact .inr (by simp [h1])
        · rcases h2 with h1 | h1
          · rcases (hm q2).1 h1 with rfl | h1
            · exact .inr (by simp)
            · exact .inl h1
          · exact .inr (by simp [h1])
      · refine .inr ⟨r', e3, hu2, fun y => ?_⟩
        rw [hm2, hm, List.mem_cons]
        constructor
        · rintro ((h | h) | h)
          · exact .inr (.inl h)
          · exact .inl h
          · exact .inr (.inr h)
        · rintro (h | h | h)
          · exact .inl (.inr h)
          · exact .inl (.inl h)
          · exact .inr h
theorem up2_uniq : ∀ {l m : List (Val × Val)}, Up2 l → Up2 m → (∀ y, y ∈ l ↔ y ∈ m) → l = m
  | [], [], _, _, _ => rfl
  | [], y :: m, _, _, h => absurd ((h y).2 (by simp)) (by simp)
  | x :: l, [], _, _, h => absurd ((h x).1 (by simp)) (by simp)
  | x :: l, y :: m, h1, h2, h => by
    obtain ⟨a1, a2⟩ := List.pairwise_cons.1 h1
    obtain ⟨b1, b2⟩ := List.pairwise_cons.1 h2
    have e : x = y := by
      have p := (h x).1 (by simp)
      have q := (h y).2 (by simp)
      rcases List.mem_cons.1 p with p | p
      · exact p
      · rcases List.mem_cons.1 q with q | q
        · exact q.symm
        · have := b1 x p; have := a1 y q; omega
    subst e
    rw [up2_uniq a2 b2 fun z => ?_]
    constructor
    · intro hz
      have := (h z).1 (by simp [hz])
      rcases List.mem_cons.1 this with rfl | h'
      · exact absurd (a1 z hz) (by omega)
      · exact h'
    · intro hz
      have := (h z).2 (by simp [hz])
      rcases List.mem_cons.1 this with rfl | h'
      · exact absurd (b1 z hz) (by omega)
      · exact h'
/-- a map's normal form, if no two pairs clash -/
theorem map_some (n : Nat) {l r : List (Val × Val)} (hl : ∀ p ∈ l, Ok2 p) (hu : Up2 r) (hm : ∀ y, y ∈ r ↔ y ∈ l) : mapV (cmpV (n + 1)) [] (flatV l) = some (flatV r) := by
  rcases mapV_spec n (l := l) (acc := []) hl (fun p hp => by cases hp) List.Pairwise.nil with ⟨e, p, q, h1, h2, h3, h4⟩ | ⟨r', e, hu', hm'⟩
  · have hp : p ∈ r := (hm p).2 (by simpa using h1)
    have hq : q ∈ r := (hm q).2 (by simpa using h2)
    exact absurd (up_cons hu p hp q hq h3) h4
  · rw [show ([] : List Val) = flatV [] from rfl, e, up2_uniq hu' hu fun y => by rw [hm', hm]; simp]
theorem map_none (n : Nat) {l : List (Val × Val)} (hl : ∀ p ∈ l, Ok2 p) (h : ¬ Cons2 l) : mapV (cmpV (n + 1)) [] (flatV l) = none := by
  rcases mapV_spec n (l := l) (acc := []) hl (fun p hp => by cases hp) List.Pairwise.nil with ⟨e, -⟩ | ⟨r', e, hu', hm'⟩
  · exact e
  · refine absurd (fun p hp q hq => ?_) h
    exact up_cons hu' p ((hm' p).2 (.inr hp)) q ((hm' q).2 (.inr hq))
/-- structs -/
theorem insF_spec (i : Int) (x : Val) : ∀ {acc : List (Int × Val)}, upP acc →
    (insF i x (acc.map (·.1)) (acc.map (·.2)) = none ∧ i ∈ acc.map (·.1)) ∨ ∃ acc' : List (Int × Val), insF i x (acc.map (·.1)) (acc.map (·.2)) = some (acc'.map (·.1), acc'.map (·.2)) ∧ upP acc' ∧ ∀ y, y ∈ acc' ↔ y = (i, x) ∨ y ∈ acc
  | [], _ => .inr ⟨[(i, x)], rfl, List.pairwise_singleton _ _, fun y => by simp⟩
  | p :: r, hu => by
    obtain ⟨u1, u2⟩ := List.pairwise_cons.1 hu
    show (insF i x (p.1 :: r.map (·.1)) (p.2 :: r.map (·.2)) = none ∧ _) ∨ ∃ acc' : List (Int × Val), insF i x (p.1 :: r.map (·.1)) (p.2 :: r.map (·.2)) = some (acc'.map (·.1), acc'.map (·.2)) ∧ _
    unfold insF
    by_cases a : i < p.1
    · rw [if_pos a]
      refine .inr ⟨(i, x) :: p :: r, rfl, List.pairwise_cons.2 ⟨fun y hy => ?_, hu⟩, fun y => by simp⟩
      rcases List.mem_cons.1 hy with rfl | hy
      · exact a
      · exact Int.lt_trans a (u1 y hy)
    · rw [if_neg a]
      by_cases b : i = p.1
      · rw [if_pos b]; exact .inl ⟨rfl, by rw [b]; simp⟩
      · rw [if_neg b]
        rcases insF_spec i x u2 with ⟨e, hq⟩ | ⟨acc', e, hu', hm⟩
        · rw [e]; exact .inl ⟨rfl, by rw [List.map_cons]; exact List.mem_cons_of_mem _ hq⟩
        · rw [e]
          refine .inr ⟨p :: acc', rfl, List.pairwise_cons.2 ⟨fun y hy => ?_, hu'⟩, fun y => ?_⟩
          · rcases (hm y).1 hy with rfl | hy
            · show p.1 < i; omega
            · exact u1 y hy
          · rw [List.mem_cons, hm, List.mem_cons]
            constructor
            · rintro (h | h | h)
              · exact .inr (.inl h)
              · exact .inl h
              · exact .inr (.inr h)
            · rintro (h | h | h)
              · exact .inr (.inl h)
              · exact .inl h
              · exact .inr (.inr h)
theorem strV_spec : ∀ {l acc : List (Int × Val)}, upP acc →
    (strV (acc.map (·.1), acc.map (·.2)) (l.map (·.1)) (l.map (·.2)) = none ∧ ¬ ((acc ++ l).map (·.1)).Nodup) ∨ ∃ r : List (Int × Val), strV (acc.map (·.1), acc.map (·.2)) (l.map (·.1)) (l.map (·.2)) = some (r.map (·.1), r.map (·.2)) ∧ upP r ∧ ∀ y, y ∈ r ↔ y ∈ acc ∨ y ∈ l
  | [], acc, hu => .inr ⟨acc, by simp [strV], hu, fun y => by simp⟩
  | p :: r, acc, hu => by
    show (strV (acc.map (·.1), acc.map (·.2)) (p.1 :: r.map (·.1)) (p.2 :: r.map (·.2)) = none ∧ _) ∨ ∃ r' : List (Int × Val), strV (acc.map (·.1), acc.map (·.2)) (p.1 :: r.map (·.1)) (p.2 :: r.map (·.2)) = some (r'.map (·.1), r'.map (·.2)) ∧ _
    rw [strV]
    rcases insF_spec p.1 p.2 hu with ⟨e, hq⟩ | ⟨acc', e, hu', hm⟩
    · rw [e]
      refine .inl ⟨rfl, fun hn => ?_⟩
      rw [List.map_append, List.nodup_append] at hn
      exact hn.2.2 p.1 hq p.1 (by simp) rfl
    · rw [e]
      rcases strV_spec (l := r) hu' with ⟨e3, h3⟩ | ⟨r', e3, hu2, hm2⟩
      · refine .inl ⟨e3, fun hn => h3 ?_⟩
        have hn1 := hn
        rw [List.map_append, List.nodup_append] at hn ⊢
        refine ⟨?_, (List.nodup_cons.1 (by simpa using hn.2.1)).2, fun a ha b hb => ?_⟩
        · exact (List.pairwise_map.2 (hu'.imp fun {a b} h e => by rw [e] at h; exact absurd h (Int.lt_irrefl _)))
        · obtain ⟨y, hy, rfl⟩ := List.mem_map.1 ha
          rcases (hm y).1 hy with rfl | hy
          · intro e4
            have := (List.nodup_cons.1 (by simpa using hn.2.1 : (p.1 :: r.map (·.1)).Nodup)).1
            exact this (by rw [show p.1 = b from e4]; exact hb)
          · exact hn.2.2 y.1 (List.mem_map_of_mem hy) b (by rw [List.map_cons]; exact List.mem_cons_of_mem _ hb)
      · refine .inr ⟨r', e3, hu2, fun y => ?_⟩
        rw [hm2, hm, List.mem_cons]
        constructor
        · rintro ((h | h) | h)
          · exact .inr (.inl h)
          · exact .inl h
          · exact .inr (.inr h)
        · rintro (h | h | h)
          · exact .inl (.inr h)
          · exact .inl (.inl h)
          · exact .inr h
theorem str_some {l r : List (Int × Val)} (hd : (l.map (·.1)).Nodup) (hu : upP r) (hm : ∀ y, y ∈ r ↔ y ∈ l) : strV ([], []) (l.map (·.1)) (l.map (·.2)) = some (r.map (·.1), r.map (·.2)) := by
  rcases strV_spec (l := l) (acc := []) List.Pairwise.nil with ⟨e, h1⟩ | ⟨r', e, hu', hm'⟩
  · exact absurd hd (by simpa using h1)
  · have : r' = r := upP_uniq hu' hu fun y => by rw [hm', hm]; simp
    rw [← this]; exact e
theorem insF_keys (i : Int) (x : Val) : ∀ {a : List Int} {b : List Val} {p : List Int × List Val}, insF i x a b = some p → a.length = b.length → p.1.length = p.2.length ∧ p.1.Perm (i :: a)
  | [], [], p, h, _ => by
    have : p = ([i], [x]) := by simpa [insF] using h.symm
    subst this; exact ⟨rfl, List.Perm.refl _⟩
  | [], _ :: _, _, _, hl => by simp at hl
  | _ :: _, [], _, _, hl => by simp at hl
  | j :: is, y :: ys, p, h, hl => by
    unfold insF at h
    by_cases a : i < j
    · rw [if_pos a] at h
      obtain rfl : (i :: j :: is, x :: y :: ys) = p := by simpa using h
      exact ⟨by simpa using hl, List.Perm.refl _⟩
    · rw [if_neg a] at h
      by_cases b : i = j
      · rw [if_pos b] at h; cases h
      · rw [if_neg b] at h
        cases e : insF i x is ys with
        | none => rw [e] at h; cases h
        | some q =>
          rw [e] at h
          obtain rfl : (j :: q.1, y :: q.2) = p := by simpa using h
          have := insF_keys i x e (by simpa using hl)
          exact ⟨by simpa using this.1, (List.Perm.cons j this.2).trans (List.Perm.swap _ _ _)⟩
theorem str_none {l : List (Int × Val)} (hd : ¬ (l.map (·.1)).Nodup) : strV ([], []) (l.map (·.1)) (l.map (·.2)) = none := by
  rcases strV_spec (l := l) (acc := []) List.Pairwise.nil with ⟨e, -⟩ | ⟨r', e, hu', hm'⟩
  · exact e
  · exfalso
    have key : ∀ (i : List Int) (v : List Val) (acc p : List Int × List Val), i.length = v.length → acc.1.length = acc.2.length → strV acc i v = some p → p.1.Perm (acc.1 ++ i) := by
      intro i
      induction i with
      | nil =>
        intro v acc p _ _ h
        have : acc = p := by cases v <;> simpa [strV] using h
        subst this; simp
      | cons a r ih =>
        intro v acc p hl ha h
        cases v with
        | nil => simp at hl
        | cons b s =>
          rw [strV] at h
          cases e : insF a b acc.1 acc.2 with
          | none => rw [e] at h; cases h
          | some q =>
            rw [e] at h
            have hk := insF_keys a b e ha
            have := ih s q p (by simpa using hl) hk.1 h
            exact this.trans ((hk.2.append_right r).trans (by
              show (a :: (acc.1 ++ r)).Perm _
              exact List.perm_middle.symm))
    have hp := key _ _ _ _ (by simp) rfl e
    have hn : (r'.map (·.1)).Nodup := List.pairwise_map.2 (hu'.imp fun {a b} h e => by rw [e] at h; exact absurd h (Int.lt_irrefl _))
    exact hd (hp.nodup_iff.1 hn)
end Go.Proofs.Ytjeadmndnbggmaa
