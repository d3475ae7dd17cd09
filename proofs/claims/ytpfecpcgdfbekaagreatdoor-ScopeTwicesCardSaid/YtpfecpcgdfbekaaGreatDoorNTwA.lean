/- ScopeTwices' made texts, and what they parse to. Plain. -/
import Derived.Test.YtpfecpcgdfbekaaGreatDoorS01
import Derived.Test.YtpfecpcgdfbekaaGreatDoorS00
set_option linter.unusedVariables false
set_option linter.unusedSimpArgs false
namespace Go.Proofs.YtpfecpcgdfbekaaGreatDoor

/-- a name, a piece, its definition -/
def tn (k : Nat) : List UInt8 := [110, UInt8.ofNat (97 + k)]
def tP (q k : Nat) : List UInt8 :=
  if q = 0 then [115, 116, 114, 117, 99, 116, 32] ++ tn k ++ [32, 123, 125]
  else if q = 1 then [116, 121, 112, 101, 100, 101, 102, 32, 105, 56, 32] ++ tn k
  else if q = 2 then [99, 111, 110, 115, 116, 32, 105, 56, 32] ++ tn k ++ [32, 61, 32, 49]
  else [115, 101, 114, 118, 105, 99, 101, 32] ++ tn k ++ [32, 123, 125]
def tD (q k : Nat) : Dfn :=
  if q = 0 then ⟨4, tn k, [], con0, [], [], [], []⟩
  else if q = 1 then ⟨1, tn k, [105, 56], con0, [], [], [], []⟩
  else if q = 2 then ⟨3, tn k, [105, 56], .mk 1 1 0 [] [], [], [], [], []⟩
  else ⟨7, tn k, [], con0, [], [], [], []⟩
def tL (x : UInt8) : List UInt8 := tP (x.toNat / 6 % 4) (x.toNat % 6) ++ [10]
def tS (l : List UInt8) : List UInt8 := l.flatMap tL
def tE (x : UInt8) : Dfn := tD (x.toNat / 6 % 4) (x.toNat % 6)
def tF (l : List UInt8) : Fil := ⟨[], [], l.map tE⟩
def tw1 (t : List UInt8) : Vs := [nmW t]
theorem k6 {k : Nat} (h : k < 6) : k = 0 ∨ k = 1 ∨ k = 2 ∨ k = 3 ∨ k = 4 ∨ k = 5 := by omega
theorem tn_name {k : Nat} (h : k < 6) : NameT (tn k) := by
  rcases k6 h with rfl | rfl | rfl | rfl | rfl | rfl <;> exact NameT.of ⟨_, _, rfl, by decide⟩ (by decide)
theorem tn_plain : ∀ k, k < 6 → plainP (tn k) = true := by decide
theorem tn_inj : ∀ k, k < 6 → ∀ j, j < 6 → tn k = tn j → k = j := by decide
theorem tn_ne : ∀ k, tn k ≠ [] := fun k h => by cases h
theorem i8_p0 : P0 [105, 56, 32] [nmW [105, 56]] := kw_name (t := [105, 56]) (NameT.of ⟨_, _, rfl, by decide⟩ (by decide))
theorem braces_p0 : P0 [32, 123, 125, 10] [sgW 123, sgW 125] :=
  (P0.white (a := [32]) (by decide)).then0 ((P0.sign (c := 123) (by decide)).then0 ((P0.sign (c := 125) (by decide)).then0 (P0.white (a := [10]) (by decide))))
theorem one_p0 : P0 [32, 61, 32, 49, 10] [sgW 61, (2, [], 1, 0)] :=
  (P0.eqs_.then1 (P1.int (n := 1) (by decide) (by decide))).nl
theorem tL_p0 {q k : Nat} (hk : k < 6) : P0 (tP q k ++ [10]) (defV tw1 (tD q k)) := by
  unfold tP tD
  split
  · exact ((kwT_p0 4 (by decide) (by decide)).then1 (P1.name (tn_name hk))).then0 (hd1 (by decide)) braces_p0
  · split
    · exact ((kwT_p0 1 (by decide) (by decide)).then0 i8_p0).then1 (P1.name (tn_name hk)) |>.nl
    · split
      · exact (((kwT_p0 3 (by decide) (by decide)).then0 i8_p0).then1 (P1.name (tn_name hk))).then0 (hd1 (by decide)) one_p0
      · exact ((kwT_p0 7 (by decide) (by decide)).then1 (P1.name (tn_name hk))).then0 (hd1 (by decide)) braces_p0
theorem tS_words (l : List UInt8) : Lxs (tS l) (fileV tw1 (tF l)) := by
  have h := (P0.flat (f := tL) (g := fun x => defV tw1 (tE x)) l (fun x _ => tL_p0 (Nat.mod_lt _ (by decide)))).whole
  refine h.same ?_
  show l.flatMap _ = [] ++ [] ++ (l.map tE).flatMap (defV tw1)
  rw [List.flatMap_map]; rfl
theorem tL_len (x : UInt8) : (tL x).length ≤ 20 := by
  unfold tL tP tn
  split
  · simp
  · split
    · simp
    · split
      · simp
      · simp
theorem tS_len : ∀ l : List UInt8, (tS l).length ≤ 20 * l.length
  | [] => Nat.le_refl _
  | x :: r => by
    have := tL_len x
    have := tS_len r
    unfold tS at *
    rw [List.flatMap_cons, List.length_append, List.length_cons]
    omega
theorem tD_ok {q k : Nat} (hk : k < 6) : okRD tw1 (tD q k) := by
  have hp := tn_plain k hk
  have ht : TyW 12 [105, 56] (tw1 [105, 56]) := TyW.leaf (by decide) (by decide) (by decide) (by decide) (by decide)
  unfold tD
  split
  · exact okRD.stc (.inl rfl) hp (by simp) (by simp)
  · split
    · exact okRD.typ hp ht
    · split
      · exact okRD.con hp ht (.inl ⟨rfl, rfl, rfl, rfl⟩)
      · exact okRD.svc hp (.inl rfl) (by simp) (by simp)
theorem tF_ok {l : List UInt8} (hl : l.length ≤ 10) : okRFil tw1 (tF l) := by
  refine ⟨by simp [tF], by simp [tF], by simp [tF], by simp [tF], ?_, ?_⟩
  · intro d hd
    obtain ⟨x, -, rfl⟩ := List.mem_map.1 (show d ∈ l.map tE from hd)
    exact tD_ok (Nat.mod_lt _ (by decide))
  · show (l.map tE).length ≤ 30
    rw [List.length_map]; omega
theorem tS_parse {l : List UInt8} (hl : l.length ≤ 10) : parseF (tS l) = (tF l, 0, 0) := by
  obtain ⟨ts, h1, h2⟩ := (tS_words l).lex (by have := tS_len l; omega)
  exact parse_back (tF_ok hl) h1 h2
theorem tS_load {l : List UInt8} (hl : l.length ≤ 10) : loadW [102] [([102], tS l)] = ⟨[[102]], [tF l], 0, [], 0⟩ := by
  have h1 : downW [([102], tS l)] 1 [] [102] lw0 = ⟨[[102]], [tF l], 0, [], 0⟩ := by
    unfold downW
    rw [show (txtW [([102], tS l)] [102]).getD [] = tS l from by unfold txtW; rw [if_pos rfl]; rfl, tS_parse hl]
    dsimp only
    rw [if_neg (by decide)]
    rfl
  unfold loadW
  rw [if_neg (by simp)]
  rw [show twL [] [([102], tS l)] = none from rfl]
  dsimp only
  rw [show plL [([102], tS l)] = none from by unfold plL; rw [if_pos (show plainP [102] = true by decide)]; rfl]
  dsimp only
  rw [show (txtW [([102], tS l)] [102]).isSome = true from by unfold txtW; rw [if_pos rfl]; rfl, if_neg (by decide)]
  have h2 : downW [([102], tS l)] ([([102], tS l)] : List (List UInt8 × List UInt8)).length [] [102] lw0 = ⟨[[102]], [tF l], 0, [], 0⟩ := h1
  rw [h2]
  rfl

/-- numbers of the made texts -/
def okC (c : UInt8) : Bool := !(decide (c.toNat = 43) || decide (c.toNat = 45) || decide (c.toNat = 46) || isDig c)
def numL : List UInt8 → Bool
  | [] => true
  | c :: r => (okC c || (decide (c = 56) && decide (r.head? = some 32)) || (decide (c = 49) && decide (r.head? = some 10))) && numL r
def numO (s : List UInt8) : Bool := decide (decN s = 0) || (decide (hexN s = 0) && wholeB (s.take (decN s)) && !isE (s.drop (decN s)))
theorem numO_c {c : UInt8} (h : okC c = true) (r : List UInt8) : numO (c :: r) = true := by
  unfold okC at h
  simp only [Bool.not_eq_true', Bool.or_eq_false_iff, decide_eq_false_iff_not] at h
  obtain ⟨⟨⟨h1, h2⟩, h3⟩, h4⟩ := h
  have e : decN (c :: r) = 0 := by
    have e1 : sgnN (c :: r) = 0 := if_neg (by omega)
    have e2 : digN (c :: r) = 0 := by unfold digN spanN; rw [h4]; rfl
    have e3 : fracN (c :: r) = 0 := if_neg (fun h => h3 h.1)
    unfold decN
    dsimp only
    rw [e1, List.drop_zero, e2, Nat.add_zero, List.drop_zero, e3]; rfl
  unfold numO
  rw [e]; rfl
theorem numO_8 (r : List UInt8) : numO (56 :: 32 :: r) = true := rfl
theorem numO_1 (r : List UInt8) : numO (49 :: 10 :: r) = true := rfl
theorem numO_of : ∀ {l : List UInt8}, numL l = true → ∀ o, o < l.length → numO (l.drop o) = true
  | c :: r, h, 0, _ => by
    unfold numL at h
    simp only [Bool.and_eq_true, Bool.or_eq_true, decide_eq_true_eq] at h
    rcases h.1 with (h1 | ⟨rfl, h1⟩) | ⟨rfl, h1⟩
    · exact numO_c h1 r
    · cases r with
      | nil => cases h1
      | cons d r => cases h1; exact numO_8 r
    · cases r with
      | nil => cases h1
      | cons d r => cases h1; exact numO_1 r
  | c :: r, h, o + 1, ho => by
    unfold numL at h
    exact numO_of (Bool.and_eq_true _ _ ▸ h).2 o (by simpa using ho)
theorem numB_of {l : List UInt8} (h : numL l = true) : numB l = true := List.all_eq_true.2 fun o ho => numO_of h o (List.mem_range.1 ho)
theorem numL_piece {q k : Nat} (hq : q < 4) (hk : k < 6) (r : List UInt8) : numL (tP q k ++ [10] ++ r) = numL r := by
  rcases (show q = 0 ∨ q = 1 ∨ q = 2 ∨ q = 3 by omega) with rfl | rfl | rfl | rfl <;>
  rcases k6 hk with rfl | rfl | rfl | rfl | rfl | rfl <;> rfl
theorem numL_tS : ∀ l : List UInt8, numL (tS l) = true
  | [] => rfl
  | x :: r => by
    unfold tS
    rw [List.flatMap_cons]
    unfold tL
    rw [numL_piece (Nat.mod_lt _ (by decide)) (Nat.mod_lt _ (by decide))]
    exact numL_tS r
theorem tS_txs {l : List UInt8} (hl : l.length ≤ 10) : txsB [([102], tS l)] = true := by
  have h1 := numB_of (numL_tS l)
  have h2 := tS_len l
  unfold txsB
  simp only [List.all_cons, List.all_nil, Bool.and_true, Bool.and_eq_true, decide_eq_true_eq]
  exact ⟨⟨h1, by decide⟩, by omega⟩
theorem dfnB_tD : ∀ q, q < 4 → ∀ k, k < 6 → dfnB (tD q k) = true := by decide
theorem tS_ld {l : List UInt8} (hl : l.length ≤ 10) : ldB [[102]] [tF l] = true := by
  unfold ldB
  simp only [List.all_cons, List.all_nil, Bool.and_true, Bool.and_eq_true, decide_eq_true_eq, List.all_eq_true]
  refine ⟨⟨⟨by decide, rfl⟩, by decide⟩, ⟨?_, by simp [tF]⟩, ?_⟩
  · show (l.map tE).length ≤ 1000
    rw [List.length_map]; omega
  · intro d hd
    obtain ⟨x, -, rfl⟩ := List.mem_map.1 (show d ∈ l.map tE from hd)
    exact dfnB_tD _ (Nat.mod_lt _ (by decide)) _ (Nat.mod_lt _ (by decide))
end Go.Proofs.YtpfecpcgdfbekaaGreatDoor
