/- The contracts of octet's functions: numbers and strings as bytes. -/
import Derived.Test.YtaoekeldokmmlaaProg
import Derived.Test.YtaoekeldokmmlaaBase
import Derived.WalkSpells
namespace Go.Proofs.Ytaoekeldokmmlaa
open Go.RowKit

theorem info_u8 : (Try.prog.info? 5).map (fun i => (i.zero, i.size, i.bytes)) = some (some (.int .u8 0), 1, 1) := by kernel_rfl
theorem bT : ElT Try.prog 22 5 1 := by
  obtain ⟨i, h1, h2, h3, h4⟩ := info_parts info_u8
  exact ⟨Try.underlying22, i, _, h1, h2, h3, h4, rfl⟩
theorem bZ : ∀ i, Try.prog.info? 5 = some i → i.zero = some (.int .u8 0) := by
  obtain ⟨i, h1, h2, h3, h4⟩ := info_parts info_u8
  intro j hj
  rw [h1] at hj; cases hj; exact h2

/-- the first k of the n low bytes of x, the highest first -/
def beT (n x k : Nat) : List UInt8 := (List.range k).map fun i => UInt8.ofNat (x / 2 ^ (8 * (n - 1 - i)))
def be (n x : Nat) : List UInt8 := beT n x n
theorem beT_len (n x k : Nat) : (beT n x k).length = k := by simp [beT]
theorem be_len (n x : Nat) : (be n x).length = n := beT_len n x n
theorem beT_succ (n x k : Nat) : beT n x (k + 1) = beT n x k ++ [UInt8.ofNat (x / 2 ^ (8 * (n - 1 - k)))] := by simp [beT, List.range_succ]
/-- the number that bytes say, the highest first -/
def num (l : List UInt8) : Nat := l.foldl (fun v x => v * 256 + x.toNat) 0
theorem num_snoc (l : List UInt8) (x : UInt8) : num (l ++ [x]) = num l * 256 + x.toNat := by simp [num, List.foldl_append]

set_option maxHeartbeats 400000 in
theorem isWidth_yes (n : Int) (w : World) (h0 : 0 ≤ n) (h8 : n ≤ 8) :
    Calls Try.prog 25 #[.int .i64 n] w fun e w' => e = .returned (.bool true) ∧ w = w' := by
  go_enter Try.func25, Try.ntmps25
  go_wp2
  go_ret
  exact ⟨rfl, rfl⟩
set_option maxHeartbeats 400000 in
theorem isWidth_no (n : Int) (w : World) (h : n < 0 ∨ 8 < n) :
    Calls Try.prog 25 #[.int .i64 n] w fun e w' => e = .returned (.bool false) ∧ w = w' := by
  rcases h with h | h
  · have h' : ¬ 0 ≤ n := by omega
    go_enter Try.func25, Try.ntmps25
    go_wp2
    go_ret
    exact ⟨rfl, rfl⟩
  · have h' : 0 ≤ n := by omega
    have h'' : ¬ n ≤ 8 := by omega
    go_enter Try.func25, Try.ntmps25
    go_wp2
    go_ret
    exact ⟨rfl, rfl⟩

set_option maxHeartbeats 400000 in
theorem push_any (B : Nat) (v : Value) (xs : List UInt8) (x : Nat) (n : Nat) (w : World) (hn : n ≤ 8) (hx : (x : Int) ≤ 18446744073709551615) (hl : xs.length + n ≤ 140737488355328)
    (hown : Own bv 5 w B v xs) (hb : B ≤ w.heap.size) :
    Calls Try.prog 27 #[v, .int .u64 x, .int .i64 n] w fun e w' => ∃ v', e = .returned v' ∧
      Own bv 5 w' B v' (xs ++ be n x) ∧ Below B w w' := by
  go_enter Try.func27, Try.ntmps27
  go_wp2
  go_loopw [0, 7] (fun v s wr => ∃ k : Nat, k ≤ n ∧ s = .int .i64 (8 * ((n : Int) - 1 - k)) ∧ Own bv 5 wr B v (xs ++ beT n x k) ∧ Below B w wr) (fun _ s _ => (intOf s + 8).toNat)
  case atStart => exact ⟨0, Nat.zero_le _, by simp, by simpa [beT] using hown, Below.refl _ _⟩
  case round =>
    obtain ⟨k, hk, rfl, hown, hbel⟩ := hrel
    have hsz := hbel.size
    by_cases hlt : k < n
    · have hs0 : 0 ≤ 8 * ((n : Int) - 1 - k) := by omega
      go_wp2_with (at_builtin; go_must (refine wpList_app (f := bv) _ bT rfl _ _ rfl bv_one B _ _ [UInt8.ofNat (x / 2 ^ (8 * (n - 1 - k)))] rfl (hown.alloc _) _ _ rfl (Rd.one (bv_ofNat _ _ (by simp)) rfl) (by simp [beT_len, maxLen]; omega) (by simp [beT_len]; omega) (by simp; omega) ?_; intro v' w' hown' hbel'))
      go_roundw
      case rel => exact ⟨k + 1, by omega, by go_num, hown'.cast (by rw [beT_succ]; simp), (hbel.alloc (by omega) _).trans hbel'⟩
      case measure => simp [intOf]; omega
    · obtain rfl : k = n := by omega
      have hs0 : ¬ 0 ≤ 8 * ((k : Int) - 1 - k) := by omega
      go_wp2
      go_ret
      exact ⟨_, rfl, hown, hbel⟩
end Go.Proofs.Ytaoekeldokmmlaa
