/- The stable sort of a row of up to twenty numbers, as values. -/
import Derived.Test.YtjeadmndnbggmaaOrI
set_option linter.unusedVariables false
set_option linter.unusedSimpArgs false
namespace Go.Proofs.Ytjeadmndnbggmaa
open Go.RowKit

set_option maxRecDepth 100000 in
set_option maxHeartbeats 3200000 in
theorem stv_any (w : World) (B gr n c : Nat) (T : TypeId) (xs : List ValS) (hn : xs.length = n) (hn9 : n ≤ 20)
    (hB : Blk w B gr (rowL valA xs).toArray T) (hok : ∀ x ∈ xs, OkS x) :
    Calls Try.prog 32 #[.slice (some ⟨gr, 0, none⟩) n c, .int .i64 (n : Int), .func (.func 8) #[] #[]] w fun e w' => e = .returned (.tuple #[]) ∧ ∃ o, Sd o xs ∧ Blk w' B gr (rowL valA o).toArray T ∧ Oth gr w w' := by
  have HI : Hid (Calls Try.prog 35 #[.slice (some ⟨gr, 0, none⟩) n c, .int .i64 0, .int .i64 (n : Int), .func (.func 8) #[] #[]] w fun e w' => e = .returned (.tuple #[]) ∧ Hid (∃ o, Sd o xs ∧ Blk w' B gr (rowL valA o).toArray T ∧ Oth gr w w')) := by
    by_cases h0 : n = 0
    · subst h0
      refine (insv_none w (some ⟨gr, 0, none⟩) 0 c 0 0 _ (by omega) (by omega) (by omega)).mono ?_
      rintro e w' ⟨rfl, hw⟩; obtain rfl := hw.symm
      obtain rfl : xs = [] := List.eq_nil_of_length_eq_zero hn
      exact ⟨rfl, [], ⟨List.Perm.refl _, List.Pairwise.nil⟩, hB, Oth.refl _ _⟩
    · exact (insv_any w B gr n c T xs hn (by omega) (by omega) hB hok).mono fun e w' h => h
  have hni : (n : Int) ≤ 20 := by omega
  have q0 : decide ((20 : Int) < (n : Int)) = false := decide_eq_false (by omega)
  have q00 : ¬ (20 : Int) < (n : Int) := by omega
  have q01 : ¬ 20 < n := by omega
  have q02 : decide (20 < n) = false := decide_eq_false q01
  have HN := Lib.hid hn9
  clear hB hok hn
  go_enter Try.func32, Try.ntmps32
  go_wp2_with fail
  by_cases h20 : n = 20
  · subst h20
    go_loopw [7, 8] (fun x y wr => (x = .int .i64 0 ∧ y = .int .i64 20 ∧ wr = w) ∨ (x = .int .i64 20 ∧ y = .int .i64 40 ∧ Hid (∃ o, Sd o xs ∧ Blk wr B gr (rowL valA o).toArray T ∧ Oth gr w wr))) (fun x y _ => (100 - intOf x).toNat)
    case atStart => exact .inl ⟨rfl, rfl, rfl⟩
    case round =>
      rcases hrel with ⟨rfl, rfl, rfl⟩ | ⟨rfl, rfl, HO⟩
      · go_wp2_with fail
        refine HI.out.mono ?_; rintro e w' ⟨rfl, HO⟩
        go_wp2_with fail
        go_roundw
        case rel => first | exact .inr ⟨rfl, rfl, HO⟩ | ((repeat apply Exists.intro); exact ⟨.inr ⟨rfl, rfl, HO⟩, rfl⟩)
        case measure => simp [intOf]
      · go_wp2_with fail
        refine (insv_none wr (some ⟨gr, 0, none⟩) 20 c 20 20 _ (by omega) (by omega) (by omega)).mono ?_
        rintro e w' ⟨rfl, hw⟩; obtain rfl := hw.symm
        go_wp2_with fail
        go_loopw [6] (fun x wq => x = .int .i64 20 ∧ wq = wr) (fun x _ => 0)
        case atStart => exact ⟨rfl, rfl⟩
        case round =>
          obtain ⟨rfl, rfl⟩ := hrel
          go_wp2_with fail
          go_end0
          exact ⟨rfl, HO.out⟩
  · have q1 : decide ((20 : Int) ≤ (n : Int)) = false := decide_eq_false (by omega)
    have q2 : ¬ (20 : Int) ≤ (n : Int) := by omega
    have q3 : ¬ 20 ≤ n := by omega
    have q4 : decide (20 ≤ n) = false := decide_eq_false q3
    go_loopw [7, 8] (fun x y wr => x = .int .i64 0 ∧ y = .int .i64 20 ∧ wr = w) (fun x y _ => 0)
    case atStart => exact ⟨rfl, rfl, rfl⟩
    case round =>
      obtain ⟨rfl, rfl, rfl⟩ := hrel
      go_wp2_with fail
      refine HI.out.mono ?_; rintro e w' ⟨rfl, HO⟩
      go_wp2_with fail
      go_loopw [6] (fun x wq => x = .int .i64 20 ∧ wq = w') (fun x _ => 0)
      case atStart => exact ⟨rfl, rfl⟩
      case round =>
        obtain ⟨rfl, rfl⟩ := hrel
        go_wp2_with fail
        go_end0
        exact ⟨rfl, HO.out⟩
theorem ssv_any (w : World) (B gr n c : Nat) (T : TypeId) (xs : List ValS) (hn : xs.length = n) (hn9 : n ≤ 20)
    (hB : Blk w B gr (rowL valA xs).toArray T) (hok : ∀ x ∈ xs, OkS x) :
    Calls Try.prog 22 #[.slice (some ⟨gr, 0, none⟩) n c, .func (.func 8) #[] #[]] w fun e w' => e = .returned (.tuple #[]) ∧ ∃ o, Sd o xs ∧ Blk w' B gr (rowL valA o).toArray T ∧ Oth gr w w' := by
  have HS := Lib.hid (stv_any w B gr n c T xs hn hn9 hB hok)
  clear hB hok hn
  go_enter Try.func22, Try.ntmps22
  go_wp2_with fail
  refine HS.out.mono ?_; rintro e w' ⟨rfl, HO⟩
  go_wp2_with fail
  go_end0
  exact ⟨rfl, HO⟩
end Go.Proofs.Ytjeadmndnbggmaa
