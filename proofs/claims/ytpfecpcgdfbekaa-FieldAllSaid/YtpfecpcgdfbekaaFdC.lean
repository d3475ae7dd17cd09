/- field.Order: the places, sorted. -/
import Derived.Test.YtpfecpcgdfbekaaFdB
import Derived.Deep.DeepCutAuto
set_option linter.unusedVariables false
set_option linter.unusedSimpArgs false
namespace Go.Proofs.Ytpfecpcgdfbekaa
open Go.RowKit

section
variable {P : Program} (w : World) {ops : Array Oper} {rest : List Oper} {o : Oper} {a : Act} {Q : Exit → Act → World → Prop}
/-- make of n noughts: the whole block is known -/
theorem wpList_mkn {t e : TypeId} {by_ : Nat} (T : ElT P t e by_) (hz0 : ∀ i, P.info? e = some i → i.zero = some (nv 0)) (hgd : o.guard = none) (l c : Operand) (hop : o.op = Op.makeSlice t l c)
    (kl kc : IntKind) (N : Nat) (hl : a.eval l = .int kl N) (hc : a.eval c = .int kc N) (hby : by_ * N ≤ 281474976710656) (hm : N ≤ 281474976710656)
    (h : ∀ g w', Hid (Blk w' w.heap.size g (((List.replicate N 0).map nv).toArray) e) → Hid (Nx w w') → wpList P ops Q rest (a.put o.dst (.slice (some ⟨g, 0, none⟩) N N)) w') : wpList P ops Q (o :: rest) a w := by
  obtain ⟨i, z, hi, hz, h1, h2, h3⟩ := T.inf
  obtain rfl : z = nv 0 := by have := hz0 i hi; rw [hz] at this; injection this
  refine wpList_plain hgd fun K hK => ?_
  have hrun := run_make (P := P) w t e i (nv 0) T.ht hi hz kl kc N N (Int.natCast_nonneg _) (Int.le_refl _) (by rw [h2]; omega) (by omega)
  rw [h1, Nat.mul_one] at hrun
  have hmc : (madeCells (nv 0).cells N).toList = List.replicate N (nv 0) := by
    rw [show (nv 0).cells = #[nv 0] from rfl]
    apply List.ext_getElem
    · simp [madeCells]
    · intro j h1 h2
      simp [madeCells, Nat.mod_one]
  have hma : madeCells (nv 0).cells N = ((List.replicate N 0).map nv).toArray := by
    apply Array.toList_inj.1
    rw [hmc]; simp
  have := hK _ _ (h w.heap.size (w.alloc (.cells (madeCells (nv 0).cells N) e)) ⟨Nat.le_refl _, by rw [← hma]; exact heap_alloc_new w _⟩ (nx0 w _))
  unfold Oper.wp execOp
  simp only [hop, Sem.run_bind, Sem.run_pure, Result.andThen_ok, hl, hc, hrun]
  exact this
end
set_option maxRecDepth 100000 in
set_option maxHeartbeats 3200000 in
theorem stable_any (w : World) (B gr n c gb : Nat) (T : TypeId) (v : Nat → Int) (hn9 : n ≤ 20)
    (hB : Blk w B gr (((List.range n).map nv).toArray) T)
    (hL : ∀ wr, Oth gr w wr → ∀ i j, i < n → j < n → Calls Try.prog 15 #[.int .i64 (i : Int), .int .i64 (j : Int), .pointer (some ⟨gb, 0, none⟩)] wr fun e w' => e = .returned (.int .i64 (cmpZ (v i) (v j))) ∧ ∃ q, w' = wr.drewN q) :
    Calls Try.prog 17 #[.slice (some ⟨gr, 0, none⟩) n c, .int .i64 (n : Int), .func (.func 15) #[] #[.pointer (some ⟨gb, 0, none⟩)]] w fun e w' => e = .returned (.tuple #[]) ∧ ∃ o, Ord v n o ∧ Blk w' B gr ((o.map nv).toArray) T ∧ Oth gr w w' := by
  have HI : Hid (Calls Try.prog 19 #[.slice (some ⟨gr, 0, none⟩) n c, .int .i64 0, .int .i64 (n : Int), .func (.func 15) #[] #[.pointer (some ⟨gb, 0, none⟩)]] w fun e w' => e = .returned (.tuple #[]) ∧ Hid (∃ o, Ord v n o ∧ Blk w' B gr ((o.map nv).toArray) T ∧ Oth gr w w')) := by
    by_cases h0 : n = 0
    · subst h0
      refine (ins_none w (some ⟨gr, 0, none⟩) 0 c 0 0 _ (by omega) (by omega) (by omega)).mono ?_
      rintro e w' ⟨rfl, hw⟩; obtain rfl := hw.symm
      exact ⟨rfl, [], Ord.nil_ _, hB, Oth.refl _ _⟩
    · exact (ins_any w B gr n c gb T v (by omega) (by omega) hB hL).mono fun e w' h => h
  have hn : (n : Int) ≤ 20 := by omega
  have q0 : decide ((20 : Int) < (n : Int)) = false := decide_eq_false (by omega)
  have q00 : ¬ (20 : Int) < (n : Int) := by omega
  have q01 : ¬ 20 < n := by omega
  have q02 : decide (20 < n) = false := decide_eq_false q01
  have HN := Lib.hid hn9
  clear hB hL
  go_enter Try.func17, Try.ntmps17
  go_wp2_with fail
  by_cases h20 : n = 20
  · subst h20
    go_loopw [7, 8] (fun x y wr => (x = .int .i64 0 ∧ y = .int .i64 20 ∧ wr = w) ∨ (x = .int .i64 20 ∧ y = .int .i64 40 ∧ Hid (∃ o, Ord v 20 o ∧ Blk wr B gr ((o.map nv).toArray) T ∧ Oth gr w wr))) (fun x y _ => (100 - intOf x).toNat)
    case atStart => exact .inl ⟨rfl, rfl, rfl⟩
    case round =>
      rcases hrel with ⟨rfl, rfl, rfl⟩ | ⟨rfl, rfl, HO⟩
      · go_wp2_with fail
        refine HI.out.mono ?_; rintro e w' ⟨rfl, HO⟩
        go_wp2_with fail
        go_roundw
        case rel => first | exact .inr ⟨rfl, rfl, HO⟩ | ((repeat apply Exists.intro); exact ⟨.inr ⟨rfl, rfl, HO⟩, rfl⟩)
        case measure => simp [intOf]
      · go_wp2_with fail
        refine (ins_none wr (some ⟨gr, 0, none⟩) 20 c 20 20 _ (by omega) (by omega) (by omega)).mono ?_
        rintro e w' ⟨rfl, hw⟩; obtain rfl := hw.symm
        go_wp2_with fail
        go_loopw [6] (fun x wq => x = .int .i64 20 ∧ wq = wr) (fun x _ => 0)
        case atStart => exact ⟨rfl, rfl⟩
        case round =>
          obtain ⟨rfl, rfl⟩ := hrel
          go_wp2_with fail
          go_end0
          exact ⟨rfl, HO.out⟩
  · have q1 : decide ((20 : Int) ≤ (n : Int)) = false := decide_eq_false (by omega)
    have q2 : ¬ (20 : Int) ≤ (n : Int) := by omega
    have q3 : ¬ 20 ≤ n := by omega
    have q4 : decide (20 ≤ n) = false := decide_eq_false q3
    go_loopw [7, 8] (fun x y wr => x = .int .i64 0 ∧ y = .int .i64 20 ∧ wr = w) (fun x y _ => 0)
    case atStart => exact ⟨rfl, rfl, rfl⟩
    case round =>
      obtain ⟨rfl, rfl, rfl⟩ := hrel
      go_wp2_with fail
      refine HI.out.mono ?_; rintro e w' ⟨rfl, HO⟩
      go_wp2_with fail
      go_loopw [6] (fun x wq => x = .int .i64 20 ∧ wq = w') (fun x _ => 0)
      case atStart => exact ⟨rfl, rfl⟩
      case round =>
        obtain ⟨rfl, rfl⟩ := hrel
        go_wp2_with fail
        go_end0
        exact ⟨rfl, HO.out⟩
end Go.Proofs.Ytpfecpcgdfbekaa
