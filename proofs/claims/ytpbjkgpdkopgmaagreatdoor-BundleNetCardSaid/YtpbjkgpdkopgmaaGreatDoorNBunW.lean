/- Five files that include each other: who is reached, and what a load of them is. Plain lemmas. -/
import Derived.Test.YtpbjkgpdkopgmaaGreatDoorNBunG
set_option linter.unusedVariables false
set_option linter.unusedSimpArgs false
namespace Go.Proofs.YtpbjkgpdkopgmaaGreatDoor

/-- who is reached, over the first so many -/
def Wa (inc : Nat → Nat → Bool) : Nat → Nat → Nat → Bool
  | 0, i, n => inc i n
  | k + 1, i, n => Wa inc k i n || (Wa inc k i k && Wa inc k k n)
theorem Wa.comp {inc : Nat → Nat → Bool} : ∀ {k n i j : Nat}, n < k → Wa inc k i n = true → Wa inc k n j = true → Wa inc k i j = true
  | 0, n, _, _, h, _, _ => by omega
  | k + 1, n, i, j, h, h1, h2 => by
    simp only [Wa, Bool.or_eq_true, Bool.and_eq_true] at h1 h2 ⊢
    rcases Nat.lt_or_ge n k with hn | hn
    · rcases h1 with h1 | ⟨h1, h1'⟩
      · rcases h2 with h2 | ⟨h2, h2'⟩
        · exact .inl (Wa.comp hn h1 h2)
        · exact .inr ⟨Wa.comp hn h1 h2, h2'⟩
      · rcases h2 with h2 | ⟨h2, h2'⟩
        · exact .inr ⟨h1, Wa.comp hn h1' h2⟩
        · exact .inr ⟨h1, h2'⟩
    · have : n = k := by omega
      subst this
      have a1 : Wa inc n i n = true := by rcases h1 with h1 | h1; exact h1; exact h1.1
      have a2 : Wa inc n n j = true := by rcases h2 with h2 | h2; exact h2; exact h2.2
      exact .inr ⟨a1, a2⟩
theorem Wa.le {inc : Nat → Nat → Bool} {i j : Nat} (h : inc i j = true) : ∀ k, Wa inc k i j = true
  | 0 => h
  | k + 1 => by simp only [Wa, Bool.or_eq_true]; exact .inl (Wa.le h k)
/-- what a round turns, in place, does not matter -/
theorem Wa.row (inc : Nat → Nat → Bool) (k i : Nat) : Wa inc (k + 1) i k = Wa inc k i k := by
  show (Wa inc k i k || (Wa inc k i k && Wa inc k k k)) = _
  cases Wa inc k i k <;> simp
theorem Wa.col (inc : Nat → Nat → Bool) (k n : Nat) : Wa inc (k + 1) k n = Wa inc k k n := by
  show (Wa inc k k n || (Wa inc k k k && Wa inc k k n)) = _
  cases Wa inc k k n <;> simp

def nm (i : Nat) : List UInt8 := [UInt8.ofNat (97 + i)]
theorem nm_inj {i j : Nat} (hi : i < 5) (hj : j < 5) (h : nm i = nm j) : i = j := by
  unfold nm at h
  simp only [List.cons.injEq, and_true] at h
  have := congrArg UInt8.toNat h
  simp only [UInt8.toNat_ofNat'] at this
  omega
def incT (x : UInt8) : List UInt8 := [105, 110, 99, 108, 117, 100, 101, 32, 39] ++ nm (x.toNat % 5) ++ [39, 10]
/-- a file's text: its includes -/
def tOf (l : List UInt8) : List UInt8 := l.flatMap incT
def incsOf (l : List UInt8) : List (List UInt8) := l.map fun x => nm (x.toNat % 5)
def fOf (l : List UInt8) : Fil := ⟨incsOf l, [], []⟩
theorem tOf_mod (l : List UInt8) : tOf l = tOf (l.map fun x => UInt8.ofNat (x.toNat % 5)) ∧ incsOf l = incsOf (l.map fun x => UInt8.ofNat (x.toNat % 5)) := by
  have e : ∀ x : UInt8, (UInt8.ofNat (x.toNat % 5)).toNat % 5 = x.toNat % 5 := fun x => by
    rw [UInt8.toNat_ofNat']; omega
  constructor
  · unfold tOf
    rw [List.flatMap_map]
    congr 1
    funext x
    simp only [Function.comp, incT, e]
  · unfold incsOf
    rw [List.map_map]
    congr 1
    funext x
    simp only [Function.comp, e]
/-- all rows of numbers below five, so long -/
def rows5 : Nat → List (List UInt8)
  | 0 => [[]]
  | n + 1 => [] :: (rows5 n).flatMap fun r => [0 :: r, 1 :: r, 2 :: r, 3 :: r, 4 :: r]
theorem mem_rows5 : ∀ (n : Nat) (l : List UInt8), l.length ≤ n → (∀ x ∈ l, x.toNat < 5) → l ∈ rows5 n
  | 0, l, h, _ => by
    have : l = [] := List.eq_nil_of_length_eq_zero (by omega)
    simp [rows5, this]
  | n + 1, [], _, _ => by simp [rows5]
  | n + 1, x :: r, h, hx => by
    have h1 := mem_rows5 n r (by simpa using h) (fun y hy => hx y (by simp [hy]))
    have h2 : x = 0 ∨ x = 1 ∨ x = 2 ∨ x = 3 ∨ x = 4 := by
      have := hx x (by simp)
      rcases (show x.toNat = 0 ∨ x.toNat = 1 ∨ x.toNat = 2 ∨ x.toNat = 3 ∨ x.toNat = 4 by omega) with h | h | h | h | h
      · exact .inl (UInt8.toNat_inj.1 h)
      · exact .inr (.inl (UInt8.toNat_inj.1 h))
      · exact .inr (.inr (.inl (UInt8.toNat_inj.1 h)))
      · exact .inr (.inr (.inr (.inl (UInt8.toNat_inj.1 h))))
      · exact .inr (.inr (.inr (.inr (UInt8.toNat_inj.1 h))))
    unfold rows5
    refine List.mem_cons_of_mem _ (List.mem_flatMap.2 ⟨r, h1, ?_⟩)
    rcases h2 with rfl | rfl | rfl | rfl | rfl <;> simp
def parOk (r : List UInt8) : Bool :=
  let p := parseF (tOf r)
  decide (p.1.incs = incsOf r) && p.1.spaces.isEmpty && p.1.defs.isEmpty && decide (p.2 = (0, 0))
set_option maxRecDepth 100000 in
theorem par_all : (rows5 4).all parOk = true := by decide +kernel
theorem par_of (l : List UInt8) (hl : l.length ≤ 4) : parseF (tOf l) = (fOf l, 0, 0) := by
  have hm := mem_rows5 4 (l.map fun x => UInt8.ofNat (x.toNat % 5)) (by simpa using hl) (fun x hx => by
    obtain ⟨y, -, rfl⟩ := List.mem_map.1 hx
    rw [UInt8.toNat_ofNat']; omega)
  have h := List.all_eq_true.1 par_all _ hm
  unfold parOk at h
  dsimp only at h
  rw [← (tOf_mod l).1, ← (tOf_mod l).2] at h
  simp only [Bool.and_eq_true, decide_eq_true_eq, List.isEmpty_iff] at h
  obtain ⟨⟨⟨h1, h2⟩, h3⟩, h4⟩ := h
  rcases hp : parseF (tOf l) with ⟨⟨a, b, c⟩, d⟩
  rw [hp] at h1 h2 h3 h4
  dsimp only at h1 h2 h3 h4
  subst h1 h2 h3 h4
  rfl

section
variable (L : Nat → List UInt8)
/-- the files, and the names and texts of them -/
def srcs : List (List UInt8 × List UInt8) := [(nm 0, tOf (L 0)), (nm 1, tOf (L 1)), (nm 2, tOf (L 2)), (nm 3, tOf (L 3)), (nm 4, tOf (L 4))]
def K5 : List (List UInt8) := [nm 0, nm 1, nm 2, nm 3, nm 4]
def incB (i j : Nat) : Bool := (L i).any fun x => decide (x.toNat % 5 = j)
def f5 (k : List UInt8) : Fil := if k = nm 0 then fOf (L 0) else if k = nm 1 then fOf (L 1) else if k = nm 2 then fOf (L 2) else if k = nm 3 then fOf (L 3) else if k = nm 4 then fOf (L 4) else fil0
def s5 : LdV := ⟨[(nm 0, tOf (L 0), 0), (nm 1, tOf (L 1), 0), (nm 2, tOf (L 2), 0), (nm 3, tOf (L 3), 0), (nm 4, tOf (L 4), 0)], [], [], 0, [], 0⟩
end
section
variable {L : Nat → List UInt8}
theorem f5_at {i : Nat} (hi : i < 5) : f5 L (nm i) = fOf (L i) := by
  rcases (show i = 0 ∨ i = 1 ∨ i = 2 ∨ i = 3 ∨ i = 4 by omega) with rfl | rfl | rfl | rfl | rfl <;> rfl
theorem mem_K5 {k : List UInt8} : k ∈ K5 ↔ ∃ i, i < 5 ∧ k = nm i := by
  unfold K5
  simp only [List.mem_cons, List.not_mem_nil, or_false]
  constructor
  · rintro (rfl | rfl | rfl | rfl | rfl)
    · exact ⟨0, by omega, rfl⟩
    · exact ⟨1, by omega, rfl⟩
    · exact ⟨2, by omega, rfl⟩
    · exact ⟨3, by omega, rfl⟩
    · exact ⟨4, by omega, rfl⟩
  · rintro ⟨i, hi, rfl⟩
    rcases (show i = 0 ∨ i = 1 ∨ i = 2 ∨ i = 3 ∨ i = 4 by omega) with rfl | rfl | rfl | rfl | rfl <;> simp
theorem beg5 {r : Nat} (hr : r < 5) : begV (nm r) (srcs L) = s5 L := by
  have h : takeV (srcs L) ld0 = s5 L := by rfl
  unfold begV
  rw [h]
  rcases (show r = 0 ∨ r = 1 ∨ r = 2 ∨ r = 3 ∨ r = 4 by omega) with rfl | rfl | rfl | rfl | rfl <;> rfl
theorem get5 {i : Nat} (hi : i < 5) : getV (s5 L) (nm i) = (tOf (L i), 0) := by
  rcases (show i = 0 ∨ i = 1 ∨ i = 2 ∨ i = 3 ∨ i = 4 by omega) with rfl | rfl | rfl | rfl | rfl <;> rfl
theorem inc5 {i : Nat} (hi : i < 5) {y : List UInt8} : Inc (f5 L) (nm i) y ↔ ∃ j, j < 5 ∧ y = nm j ∧ incB L i j = true := by
  unfold Inc incB
  rw [f5_at hi]
  unfold fOf incsOf
  simp only [List.mem_map, List.any_eq_true, decide_eq_true_eq]
  constructor
  · rintro ⟨x, hx, rfl⟩
    exact ⟨x.toNat % 5, by omega, rfl, x, hx, rfl⟩
  · rintro ⟨j, hj, rfl, x, hx, e⟩
    exact ⟨x, hx, by rw [e]⟩
theorem good5 (hL : ∀ i, i < 5 → (L i).length ≤ 4) : GoodB (f5 L) K5 (s5 L) := by
  refine ⟨rfl, fun k hk => ?_, fun k hk x hx => ?_⟩
  · obtain ⟨i, hi, rfl⟩ := mem_K5.1 hk
    rw [get5 hi, f5_at hi]
    exact par_of _ (hL i hi)
  · obtain ⟨i, hi, rfl⟩ := mem_K5.1 hk
    obtain ⟨j, hj, rfl, -⟩ := (inc5 hi).1 hx
    exact mem_K5.2 ⟨j, hj, rfl⟩
theorem vis5 (k : List UInt8) : visO (s5 L) k = 0 := by
  unfold visO getV
  cases h : getM (s5 L).m k with
  | none => rfl
  | some v =>
    have := getM_mem h
    unfold s5 at this
    simp only [List.mem_cons, List.not_mem_nil, or_false, Prod.mk.injEq] at this
    rcases this with ⟨-, rfl⟩ | ⟨-, rfl⟩ | ⟨-, rfl⟩ | ⟨-, rfl⟩ | ⟨-, rfl⟩ <;> rfl
theorem tc_sound {i j : Nat} (hi : i < 5) (hj : j < 5) : ∀ k, k ≤ 5 → ∀ {i j : Nat}, i < 5 → j < 5 → Wa (incB L) k i j = true → Tc (f5 L) (nm i) (nm j)
  | 0, _, i, j, hi, hj, h => Tc.one ((inc5 hi).2 ⟨j, hj, rfl, h⟩)
  | k + 1, hk, i, j, hi, hj, h => by
    simp only [Wa, Bool.or_eq_true, Bool.and_eq_true] at h
    rcases h with h | ⟨h1, h2⟩
    · exact tc_sound hi hj k (by omega) hi hj h
    · obtain ⟨b, e1, e2⟩ := tc_sound hi hj k (by omega) hi (by omega) h1
      obtain ⟨c, e3, e4⟩ := tc_sound hi hj k (by omega) (by omega) hj h2
      exact ⟨b, e1, e2.trans (.step e3 e4)⟩
theorem rc_full {a y : List UInt8} (h : Rc (f5 L) a y) : ∀ {i}, i < 5 → a = nm i → ∃ j, j < 5 ∧ y = nm j ∧ (i = j ∨ Wa (incB L) 5 i j = true) := by
  induction h with
  | refl a => exact fun {i} hi e => ⟨i, hi, e, .inl rfl⟩
  | step h1 h2 ih =>
    intro i hi e
    subst e
    obtain ⟨j, hj, rfl, hb⟩ := (inc5 hi).1 h1
    obtain ⟨k, hk, rfl, hc⟩ := ih hj rfl
    refine ⟨k, hk, rfl, .inr ?_⟩
    rcases hc with rfl | hc
    · exact Wa.le hb 5
    · exact Wa.comp hj (Wa.le hb 5) hc
theorem tc_full {i : Nat} (hi : i < 5) {y : List UInt8} (h : Tc (f5 L) (nm i) y) : ∃ j, j < 5 ∧ y = nm j ∧ Wa (incB L) 5 i j = true := by
  obtain ⟨b, h1, h2⟩ := h
  obtain ⟨j, hj, rfl, hb⟩ := (inc5 hi).1 h1
  obtain ⟨k, hk, rfl, hc⟩ := rc_full h2 hj rfl
  refine ⟨k, hk, rfl, ?_⟩
  rcases hc with rfl | hc
  · exact Wa.le hb 5
  · exact Wa.comp hj (Wa.le hb 5) hc
end
theorem ord_rc {f : List UInt8 → Fil} {l : List (List UInt8)} (h : Ordr f l) {b y : List UInt8} (k : Rc f b y) : ∀ j, l[j]? = some b → b = y ∨ y ∈ l.take j := by
  induction k with
  | refl a => exact fun j _ => .inl rfl
  | step h1 h2 ih =>
    intro j hj
    have hb := h j _ hj _ h1
    obtain ⟨i, hi⟩ := List.getElem?_of_mem hb
    have hij : i < j := by
      rcases Nat.lt_or_ge i (l.take j).length with h3 | h3
      · simp at h3; omega
      · rw [List.getElem?_eq_none h3] at hi; cases hi
    rw [List.getElem?_take, if_pos hij] at hi
    rcases ih i hi with rfl | h4
    · exact .inr hb
    · refine .inr ?_
      have : l.take i = (l.take j).take i := by rw [List.take_take, Nat.min_eq_left (by omega)]
      rw [this] at h4
      exact List.mem_of_mem_take h4
theorem ord_tc {f : List UInt8 → Fil} {l : List (List UInt8)} (h : Ordr f l) {x y : List UInt8} (k : Tc f x y) (j : Nat) (hj : l[j]? = some x) : y ∈ l.take j := by
  obtain ⟨b, h1, h2⟩ := k
  rcases ord_rc h (.step h1 h2) j hj with rfl | h3
  · have hb := h j _ hj _ h1
    obtain ⟨i, hi⟩ := List.getElem?_of_mem hb
    have hij : i < j := by
      rcases Nat.lt_or_ge i (l.take j).length with h3 | h3
      · simp at h3; omega
      · rw [List.getElem?_eq_none h3] at hi; cases hi
    rw [List.getElem?_take, if_pos hij] at hi
    rcases ord_rc h h2 i hi with rfl | h4
    · exact hb
    · have : l.take i = (l.take j).take i := by rw [List.take_take, Nat.min_eq_left (by omega)]
      rw [this] at h4
      exact List.mem_of_mem_take h4
  · exact h3

/-- which of five are reached -/
def got5 (L : Nat → List UInt8) (r i : Nat) : Bool := decide (i = r) || Wa (incB L) 5 r i
def want5 (L : Nat → List UInt8) (r : Nat) : Nat := ((List.range 5).filter (got5 L r)).length
def cyc5 (L : Nat → List UInt8) (r : Nat) : Bool := (List.range 5).any fun i => got5 L r i && Wa (incB L) 5 i i

theorem net5 (L : Nat → List UInt8) (hL : ∀ i, i < 5 → (L i).length ≤ 4) (r : Nat) (hr : r < 5) :
    (cyc5 L r = true → (endV (nm r) (srcs L)).e = 9) ∧
    (cyc5 L r = false → (endV (nm r) (srcs L)).e = 0 ∧ (endV (nm r) (srcs L)).names.length = want5 L r ∧ (endV (nm r) (srcs L)).names.getLast? = some (nm r) ∧
      (endV (nm r) (srcs L)).files = (endV (nm r) (srcs L)).names.map (f5 L) ∧ Ordr (f5 L) (endV (nm r) (srcs L)).names ∧ ∀ x ∈ (endV (nm r) (srcs L)).names, x ∈ K5) := by
  have h := visV_ok (f := f5 L) (K := K5) 5 (nm r) (s5 L) rfl (good5 hL) (mem_K5.2 ⟨r, hr, rfl⟩) (vis5 _) (by
      refine Nat.le_trans List.countP_le_length ?_; decide) (fun k hk => by rw [vis5] at hk; cases hk)
    ⟨rfl, List.nodup_nil, fun k => by rw [vis5]; simp [s5], fun i x hx => by simp [s5] at hx⟩
  have he : endV (nm r) (srcs L) = visV 5 (nm r) (s5 L) := by
    unfold endV; rw [beg5 hr]; rfl
  rw [he]
  have hcyc : ∀ {i}, i < 5 → (i = r ∨ Wa (incB L) 5 r i = true) → Wa (incB L) 5 i i = true → cyc5 L r = true := fun {i} hi h1 h2 => by
    unfold cyc5 got5
    rw [List.any_eq_true]
    exact ⟨i, List.mem_range.2 hi, by simp [h2]; exact h1⟩
  rcases h with ⟨h1, c, h2, h3⟩ | ⟨h1, h2, h3, -, add, h5, h6⟩
  · obtain ⟨i, hi, rfl, hc⟩ := rc_full h2 hr rfl
    obtain ⟨j, hj, e, hd⟩ := tc_full hi h3
    obtain rfl := nm_inj hi hj e
    have := hcyc hi (hc.imp Eq.symm id) hd
    exact ⟨fun _ => h1, fun h => (by rw [this] at h; cases h)⟩
  · have hnames : (visV 5 (nm r) (s5 L)).names = add ++ [nm r] := by rw [h5]; rfl
    have hmem : ∀ y, y ∈ (visV 5 (nm r) (s5 L)).names ↔ ∃ i, i < 5 ∧ y = nm i ∧ got5 L r i = true := by
      intro y
      constructor
      · intro hy
        rw [hnames, List.mem_append, List.mem_singleton] at hy
        rcases hy with hy | rfl
        · obtain ⟨i, hi, rfl, hc⟩ := rc_full (h6 y hy) hr rfl
          exact ⟨i, hi, rfl, by unfold got5; simp; exact hc.imp Eq.symm id⟩
        · exact ⟨r, hr, rfl, by unfold got5; simp⟩
      · rintro ⟨i, hi, rfl, hg⟩
        unfold got5 at hg
        simp only [Bool.or_eq_true, decide_eq_true_eq] at hg
        have hlast : (visV 5 (nm r) (s5 L)).names[add.length]? = some (nm r) := by rw [hnames]; simp
        rcases hg with rfl | hg
        · rw [hnames]; simp
        · exact List.mem_of_mem_take (ord_tc h3.ord (tc_sound hr hi 5 (by omega) hr hi hg) _ hlast)
    have hno : cyc5 L r = false := by
      rw [← Bool.not_eq_true]
      intro hc
      unfold cyc5 at hc
      rw [List.any_eq_true] at hc
      obtain ⟨i, hi, hg⟩ := hc
      rw [List.mem_range] at hi
      simp only [Bool.and_eq_true] at hg
      have hin := (hmem (nm i)).2 ⟨i, hi, rfl, hg.1⟩
      obtain ⟨j, hj⟩ := List.getElem?_of_mem hin
      have ht := ord_tc h3.ord (tc_sound hi hi 5 (by omega) hi hi hg.2) j hj
      obtain ⟨k, hk⟩ := List.getElem?_of_mem ht
      have hkj : k < j := by
        rcases Nat.lt_or_ge k ((visV 5 (nm r) (s5 L)).names.take j).length with h3 | h3
        · simp at h3; omega
        · rw [List.getElem?_eq_none h3] at hk; cases hk
      rw [List.getElem?_take, if_pos hkj] at hk
      have hjl : j < (visV 5 (nm r) (s5 L)).names.length := (List.getElem?_eq_some_iff.1 hj).1
      have := (List.getElem?_inj (Nat.lt_trans hkj hjl) h3.nodup).1 (hk.trans hj.symm)
      omega
    refine ⟨fun h => (by rw [hno] at h; cases h), fun _ => ⟨h1, ?_, by rw [hnames]; simp, h3.files, h3.ord, fun x hx => ?_⟩⟩
    · have hnd : (((List.range 5).filter (got5 L r)).map nm).Nodup := by
        rw [List.nodup_iff_pairwise_ne, List.pairwise_map]
        have hp : ((List.range 5).filter (got5 L r)).Pairwise (fun a b => a < b) := List.Pairwise.filter _ List.pairwise_lt_range
        refine List.Pairwise.imp_of_mem ?_ hp
        intro a b ha hb hlt e
        have ha' := List.mem_range.1 (List.mem_filter.1 ha).1
        have hb' := List.mem_range.1 (List.mem_filter.1 hb).1
        have := nm_inj ha' hb' e
        omega
      have hp := (List.perm_ext_iff_of_nodup h3.nodup hnd).2 (fun y => by
        rw [hmem]
        simp only [List.mem_map, List.mem_filter, List.mem_range]
        constructor
        · rintro ⟨i, hi, rfl, hg⟩; exact ⟨i, ⟨hi, hg⟩, rfl⟩
        · rintro ⟨i, ⟨hi, hg⟩, rfl⟩; exact ⟨i, hi, rfl, hg⟩)
      rw [hp.length_eq, List.length_map]; rfl
    · obtain ⟨i, hi, rfl, -⟩ := (hmem x).1 hx
      exact mem_K5.2 ⟨i, hi, rfl⟩
end Go.Proofs.YtpbjkgpdkopgmaaGreatDoor
