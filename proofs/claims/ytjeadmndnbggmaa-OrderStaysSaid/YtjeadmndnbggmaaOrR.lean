/- Maps of numbers in their normal form: their pairs as they rise. Plain. -/
import Derived.Test.YtjeadmndnbggmaaOrQ
set_option linter.unusedVariables false
set_option linter.unusedSimpArgs false
namespace Go.Proofs.Ytjeadmndnbggmaa

def flatK (k : Nat) (ps : List (Int × Val)) : List Val := ps.flatMap fun p => [leafV k p.1, p.2]
def insP (x : Int) (v : Val) : List (Int × Val) → List (Int × Val)
  | [] => [(x, v)]
  | p :: r => if x < p.1 then (x, v) :: p :: r else p :: insP x v r
def srtP (ps : List (Int × Val)) : List (Int × Val) := ps.foldl (fun acc p => insP p.1 p.2 acc) []
theorem flatK_len (k : Nat) : ∀ ps : List (Int × Val), (flatK k ps).length = 2 * ps.length
  | [] => rfl
  | p :: r => by
    have h := flatK_len k r
    unfold flatK at h ⊢
    rw [List.flatMap_cons, List.length_append, h, List.length_cons]
    simp; omega
theorem insP_mem (x : Int) (v : Val) : ∀ (l : List (Int × Val)) (y : Int × Val), y ∈ insP x v l ↔ y = (x, v) ∨ y ∈ l
  | [], y => by unfold insP; simp
  | z :: r, y => by
    unfold insP
    split
    · simp
    · rw [List.mem_cons, insP_mem x v r y, List.mem_cons]
      constructor
      · rintro (h | h | h)
        · exact .inr (.inl h)
        · exact .inl h
        · exact .inr (.inr h)
      · rintro (h | h | h)
        · exact .inr (.inl h)
        · exact .inl h
        · exact .inr (.inr h)
def upP (l : List (Int × Val)) : Prop := l.Pairwise fun a b => a.1 < b.1
theorem insP_up (x : Int) (v : Val) : ∀ {l : List (Int × Val)}, upP l → (∀ p ∈ l, p.1 ≠ x) → upP (insP x v l)
  | [], _, _ => by unfold insP upP; simp
  | z :: r, h, hn => by
    obtain ⟨h1, h2⟩ := List.pairwise_cons.1 h
    unfold insP
    split
    · rename_i h0
      refine List.pairwise_cons.2 ⟨fun y hy => ?_, h⟩
      rcases List.mem_cons.1 hy with rfl | hy
      · exact h0
      · exact Int.lt_trans h0 (h1 y hy)
    · rename_i h0
      refine List.pairwise_cons.2 ⟨fun y hy => ?_, insP_up x v h2 fun p hp => hn p (by simp [hp])⟩
      rcases (insP_mem x v r y).1 hy with rfl | hy
      · have := hn z (by simp); show z.1 < x; omega
      · exact h1 y hy
theorem insM_flat (n : Nat) {k : Nat} (hk : intK k = true) (x : Int) (v : Val) : ∀ {l : List (Int × Val)}, (∀ p ∈ l, p.1 ≠ x) → insM (cmpV (n + 1)) (leafV k x) v (flatK k l) = some (flatK k (insP x v l))
  | [], _ => rfl
  | p :: r, hn => by
    have hc := leaf_cmp n k hk x p.1
    have hx := hn p (by simp)
    have ih := insM_flat n hk x v (l := r) fun q hq => hn q (by simp [hq])
    show insM (cmpV (n + 1)) (leafV k x) v (leafV k p.1 :: p.2 :: flatK k r) = some (flatK k (insP x v (p :: r)))
    unfold insM insP
    rw [hc]
    unfold cmpI
    by_cases h : x < p.1
    · rw [if_pos h, if_pos (by decide), if_pos h]; rfl
    · rw [if_neg h, if_neg h, if_pos (show p.1 < x by omega), if_neg (by decide), if_neg (by decide), ih]; rfl
theorem mapV_flat (n : Nat) {k : Nat} (hk : intK k = true) : ∀ (l acc : List (Int × Val)), (l.map (·.1)).Nodup → (∀ p ∈ l, ∀ q ∈ acc, q.1 ≠ p.1) → upP acc →
    mapV (cmpV (n + 1)) (flatK k acc) (flatK k l) = some (flatK k (l.foldl (fun acc p => insP p.1 p.2 acc) acc)) ∧ upP (l.foldl (fun acc p => insP p.1 p.2 acc) acc) ∧ ∀ y, y ∈ l.foldl (fun acc p => insP p.1 p.2 acc) acc ↔ y ∈ acc ∨ y ∈ l
  | [], acc, _, _, hu => ⟨by simp [flatK, mapV], hu, fun y => by simp⟩
  | p :: r, acc, hd, hn, hu => by
    have hd' := List.nodup_cons.1 (by simpa using hd : (p.1 :: r.map (·.1)).Nodup)
    have hna := hn p (by simp)
    obtain ⟨h1, h2, h3⟩ := mapV_flat n hk r (insP p.1 p.2 acc) hd'.2 (fun q hq s hs => by
      rcases (insP_mem p.1 p.2 acc s).1 hs with rfl | hs
      · exact fun e => hd'.1 (by rw [show p.1 = q.1 from e]; exact List.mem_map_of_mem hq)
      · exact hn q (by simp [hq]) s hs) (insP_up p.1 p.2 hu hna)
    refine ⟨?_, h2, fun y => ?_⟩
    · show mapV (cmpV (n + 1)) (flatK k acc) (leafV k p.1 :: p.2 :: flatK k r) = _
      rw [mapV, insM_flat n hk p.1 p.2 hna]
      exact h1
    · rw [List.foldl_cons, h3, insP_mem, List.mem_cons]
      constructor
      · rintro ((h | h) | h)
        · exact .inr (.inl h)
        · exact .inl h
        · exact .inr (.inr h)
      · rintro (h | h | h)
        · exact .inl (.inr h)
        · exact .inl (.inl h)
        · exact .inr h
theorem srtP_all (n : Nat) {k : Nat} (hk : intK k = true) {l : List (Int × Val)} (h : (l.map (·.1)).Nodup) : mapV (cmpV (n + 1)) [] (flatK k l) = some (flatK k (srtP l)) ∧ upP (srtP l) ∧ ∀ y, y ∈ srtP l ↔ y ∈ l := by
  obtain ⟨h1, h2, h3⟩ := mapV_flat n hk l [] h (fun _ _ _ hq => by cases hq) List.Pairwise.nil
  exact ⟨h1, h2, fun y => (h3 y).trans (by simp)⟩
theorem upP_uniq : ∀ {l m : List (Int × Val)}, upP l → upP m → (∀ y, y ∈ l ↔ y ∈ m) → l = m
  | [], [], _, _, _ => rfl
  | [], y :: m, _, _, h => absurd ((h y).2 (by simp)) (by simp)
  | x :: l, [], _, _, h => absurd ((h x).1 (by simp)) (by simp)
  | x :: l, y :: m, h1, h2, h => by
    obtain ⟨a1, a2⟩ := List.pairwise_cons.1 h1
    obtain ⟨b1, b2⟩ := List.pairwise_cons.1 h2
    have e : x = y := by
      have p := (h x).1 (by simp)
      have q := (h y).2 (by simp)
      rcases List.mem_cons.1 p with p | p
      · exact p
      · rcases List.mem_cons.1 q with q | q
        · exact q.symm
        · have := b1 x p; have := a1 y q; omega
    subst e
    rw [upP_uniq a2 b2 fun z => ?_]
    constructor
    · intro hz
      have := (h z).1 (by simp [hz])
      rcases List.mem_cons.1 this with rfl | h'
      · exact absurd (a1 z hz) (by omega)
      · exact h'
    · intro hz
      have := (h z).2 (by simp [hz])
      rcases List.mem_cons.1 this with rfl | h'
      · exact absurd (b1 z hz) (by omega)
      · exact h'
theorem srtP_same {l m : List (Int × Val)} (hl : (l.map (·.1)).Nodup) (hm : (m.map (·.1)).Nodup) (h : ∀ y, y ∈ l ↔ y ∈ m) : srtP l = srtP m := by
  have a := srtP_all 0 (k := 3) (by decide) hl
  have b := srtP_all 0 (k := 3) (by decide) hm
  exact upP_uniq a.2.1 b.2.1 fun y => by rw [a.2.2, b.2.2, h]
theorem prt_flat (n : Nat) {k k2 : Nat} (hk : intK k = true) (hk2 : intK k2 = true) : ∀ l : List (Int × Int), prtV (normV (n + 1)) (flatK k (l.map fun p => (p.1, leafV k2 p.2))) = (flatK k (l.map fun p => (p.1, leafV k2 p.2)), 0)
  | [] => rfl
  | p :: r => by
    show prtV _ (leafV k p.1 :: leafV k2 p.2 :: flatK k (r.map fun p => (p.1, leafV k2 p.2))) = _
    unfold prtV
    rw [norm_leaf n hk]
    unfold prtV
    rw [norm_leaf n hk2, prt_flat n hk hk2 r]; rfl
/-- a map's normal form, of numbers, no two of one key -/
theorem norm_map (n : Nat) {k k2 : Nat} (hk : intK k = true) (hk2 : intK k2 = true) {l : List (Int × Int)} (h : (l.map (·.1)).Nodup) :
    normV (n + 2) (.mk 13 0 [] (flatK k (l.map fun p => (p.1, leafV k2 p.2))) []) = (.mk 13 0 [] (flatK k (srtP (l.map fun p => (p.1, leafV k2 p.2)))) [], 0) := by
  have hd : ((l.map fun p => (p.1, leafV k2 p.2)).map (·.1)).Nodup := by rw [List.map_map]; exact h
  unfold normV
  rw [if_neg (by decide), prt_flat n hk hk2]
  dsimp only
  rw [if_neg (by decide), if_neg (by decide), if_neg (by decide), if_pos rfl, if_neg (by rw [flatK_len]; omega), (srtP_all n hk hd).1]
end Go.Proofs.Ytjeadmndnbggmaa
