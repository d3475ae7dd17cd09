/- What scope hands back, in one form; a load of known texts. -/
import Derived.Test.YtdfiedcajlgglaaGreatDoorG35
import Derived.Test.YtdfiedcajlgglaaGreatDoorG36
import Derived.Test.YtdfiedcajlgglaaGreatDoorG26
import Derived.Test.YtdfiedcajlgglaaGreatDoorG22
set_option linter.unusedVariables false
set_option linter.unusedSimpArgs false
namespace Go.Proofs.YtdfiedcajlgglaaGreatDoor
open Go.RowKit

def nmO (files : List Fil) (i : Int) (j : Nat) : List UInt8 := match defO files i j with
  | none => []
  | some d => d.nm
/-- whole name, file, error, own name -/
def whoF (names : List (List UInt8)) (files : List Fil) : Pl → List UInt8 × List UInt8 × Nat × List UInt8
  | none => ([], [], 7, [])
  | some (i, j) => (names.getD i.toNat [] ++ [46] ++ nmO files i j, names.getD i.toNat [], 0, nmO files i j)
/-- whole name, member, error -/
def whoC (names : List (List UInt8)) (files : List Fil) : Mp3 → List UInt8 × List UInt8 × Nat
  | none => ([], [], 7)
  | some ((i, j), mb) => (names.getD i.toNat [] ++ [46] ++ nmO files i j, mb, 0)
/-- a definition as a value, whatever it has -/
def DfV (v : Value) (nm : List UInt8) : Prop := ∃ (dk xk xd : Nat) (xn : Int) (dt s de : List UInt8) (zA fA mA tA : Option Addr) (zu zc fu fc mu mc tu tc : Nat),
  v = .agg #[.int .i64 (dk : Int), .string ⟨nm.toArray⟩, .string ⟨dt.toArray⟩, .int .i64 (xk : Int), .int .i64 xn, .int .u64 (xd : Int), .string ⟨s.toArray⟩, .slice zA zu zc, .slice fA fu fc, .slice mA mu mc, .string ⟨de.toArray⟩, .slice tA tu tc]
theorem dfv_of {z : DfnS} (h1 : IsSl z.ini.l) (h2 : IsSl z.fields) (h3 : IsSl z.mems) (h4 : IsSl z.mets) : DfV (.agg (dfnA z)) z.nm := by
  obtain ⟨dk, dn, dt, ⟨xk, xn, xd, s, xl⟩, xf, xm, de, xt⟩ := z
  obtain ⟨zA, zu, zc, hxl⟩ := h1
  obtain ⟨fA, fu, fc, hxf⟩ := h2
  obtain ⟨mA, mu, mc, hxm⟩ := h3
  obtain ⟨tA, tu, tc, hxt⟩ := h4
  dsimp only at hxl hxf hxm hxt
  subst hxl hxf hxm hxt
  exact ⟨dk, xk, xd, xn, dt, s, de, zA, fA, mA, tA, zu, zc, fu, fc, mu, mc, tu, tc, rfl⟩
theorem plo_nm {files : List Fil} {i : Int} {j : Nat} {d : Dfn} (h : PlOk files i j d) : nmO files i j = d.nm := by
  obtain ⟨k, hk, rfl, hj, hd⟩ := h
  unfold nmO
  rw [defO_at hk hj, hd]
theorem findR_g {names : List (List UInt8)} {files : List Fil} {P : Pl} {e : Ending} (h : FindR names files P e) :
    ∃ v, e = .returned (.tuple #[bt (whoF names files P).1, v, bt (whoF names files P).2.1, .int .i64 ((whoF names files P).2.2.1 : Int)]) ∧ DfV v (whoF names files P).2.2.2 := by
  cases P with
  | none => exact ⟨_, h, 0, 0, 0, 0, [], [], [], none, none, none, none, 0, 0, 0, 0, 0, 0, 0, 0, rfl⟩
  | some P =>
    obtain ⟨i, j⟩ := P
    obtain ⟨z, nm, d, rfl, hp, hn, h1, h2, h3, h4, h5, h6, h7⟩ := h
    have e1 : whoF names files (some (i, j)) = (nm ++ [46] ++ d.nm, nm, 0, d.nm) := by
      show (names.getD i.toNat [] ++ [46] ++ nmO files i j, names.getD i.toNat [], 0, nmO files i j) = _
      rw [plo_nm hp, show names.getD i.toNat [] = nm from by simp [List.getD, hn]]
    rw [e1]
    exact ⟨_, rfl, h2 ▸ dfv_of h4 h5 h6 h7⟩
theorem constR_g {names : List (List UInt8)} {files : List Fil} {P : Mp3} {e : Ending} (h : ConstR names files P e) :
    ∃ v H nm, e = .returned (.tuple #[bt (whoC names files P).1, v, bt (whoC names files P).2.1, bt H, .int .i64 ((whoC names files P).2.2 : Int)]) ∧ DfV v nm := by
  cases P with
  | none => exact ⟨_, [], [], h, 0, 0, 0, 0, [], [], [], none, none, none, none, 0, 0, 0, 0, 0, 0, 0, 0, rfl⟩
  | some P =>
    obtain ⟨⟨i, j⟩, mb⟩ := P
    obtain ⟨z, nm, d, rfl, hp, hn, h1, h2, h3, h4, h5, h6, h7⟩ := h
    have e1 : whoC names files (some ((i, j), mb)) = (nm ++ [46] ++ d.nm, mb, 0) := by
      show (names.getD i.toNat [] ++ [46] ++ nmO files i j, mb, 0) = _
      rw [plo_nm hp, show names.getD i.toNat [] = nm from by simp [List.getD, hn]]
    rw [e1]
    exact ⟨_, nm, _, rfl, dfv_of h4 h5 h6 h7⟩
theorem txtW_mem : ∀ (xs : List (List UInt8 × List UInt8)) (nm : List UInt8), (txtW xs nm).getD [] = [] ∨ ∃ x ∈ xs, x.2 = (txtW xs nm).getD []
  | [], _ => .inl rfl
  | x :: r, nm => by
    unfold txtW
    split
    · exact .inr ⟨x, by simp, rfl⟩
    · rcases txtW_mem r nm with h | ⟨y, hy, h⟩
      · exact .inl h
      · exact .inr ⟨y, by simp [hy], h⟩
/-- texts without great numbers -/
def txsB (xs : List (List UInt8 × List UInt8)) : Bool := xs.all fun x => numB x.2 && decide (x.1.length ≤ 8000) && decide (x.2.length ≤ 8000)
theorem load_w (w : World) (root : List UInt8) (A : Option Addr) (n c : Nat) (xs : List (List UInt8 × List UInt8)) (hn : xs.length = n) (hrd : RdW w A xs) (hx : txsB xs = true) (hn6 : n ≤ 5)
    (names : List (List UInt8)) (files : List Fil) (m : Nat) (h1 : (loadW root xs).names = names) (h2 : (loadW root xs).files = files) (he : (loadW root xs).e = 0) (hf : (loadW root xs).file = []) (ha : (loadW root xs).at_ = 0) (hm : names.length = m) (hok : ldB names files = true) :
    Calls Tryz.prog 12 #[.agg #[.string ⟨root.toArray⟩, .slice A n c]] w fun e w' => ∃ nA nc fA fc, e = .returned (.tuple #[.agg #[.slice nA m nc, .slice fA m fc], .int .i64 0, .string ⟨#[]⟩, .int .i64 0]) ∧ Ldn w' nA fA m nc fc names files ∧ Nx w w' := by
  have hx' : ∀ x ∈ xs, numB x.2 = true ∧ x.1.length ≤ 8000 ∧ x.2.length ≤ 8000 := by
    unfold txsB at hx
    simp only [List.all_eq_true, Bool.and_eq_true, decide_eq_true_eq] at hx
    exact fun x h => ⟨(hx x h).1.1, (hx x h).1.2, (hx x h).2⟩
  have hdoc : ∀ nm, DocOk ((txtW xs nm).getD []) := fun nm => by
    rcases txtW_mem xs nm with h | ⟨x, h, e⟩
    · rw [h]; exact docOk_w [] (by decide) rfl
    · rw [← e]; exact docOk_w _ (by have := (hx' x h).2.2; omega) (hx' x h).1
  refine (dload_of w root A n c xs hn hrd (fun x h => ⟨(hx' x h).2.1, by have := (hx' x h).2.2; omega⟩) (by omega) hdoc).mono ?_
  rintro e w' ⟨vn, vf, rfl, hnm, hfl, hn1⟩
  rw [h1] at hnm
  rw [h2] at hfl
  have hlf : files.length = m := by
    unfold ldB at hok
    simp only [Bool.and_eq_true, decide_eq_true_eq] at hok
    omega
  obtain ⟨nA, nc, _, rfl, -⟩ := hnm.sl strA_size
  obtain ⟨fA, fc, _, rfl, -⟩ := hfl.sl (show ∀ x, (filA x).size = 3 from fun _ => rfl)
  rw [hm] at hnm ⊢
  rw [hlf] at hfl ⊢
  rw [he, hf, ha]
  exact ⟨nA, nc, fA, fc, rfl, ⟨RepL.less REq.lasts hnm (Nat.zero_le _), RepL.less RFile.lasts hfl (Nat.zero_le _), hm, hlf, hok⟩, hn1⟩
end Go.Proofs.YtdfiedcajlgglaaGreatDoor
