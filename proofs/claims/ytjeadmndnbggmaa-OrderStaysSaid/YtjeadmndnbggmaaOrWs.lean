/- The stable sort of a row of 21 to 39 numbers, as values: two parts, then the merge. -/
import Derived.Test.YtjeadmndnbggmaaOrIp
import Derived.Test.YtjeadmndnbggmaaOrWm
import Derived.Test.YtjeadmndnbggmaaOrJ
set_option linter.unusedVariables false
set_option linter.unusedSimpArgs false
namespace Go.Proofs.Ytjeadmndnbggmaa
open Go.RowKit

set_option maxRecDepth 100000 in
set_option maxHeartbeats 3200000 in
theorem stv_more (w : World) (B gr n c : Nat) (T : TypeId) (xs : List ValS) (hn : xs.length = n) (h20 : 20 < n) (hn9 : n < 40)
    (hB : Blk w B gr (rowL valA xs).toArray T) (hok : ∀ x ∈ xs, OkS x) :
    Calls Try.prog 32 #[.slice (some ⟨gr, 0, none⟩) n c, .int .i64 (n : Int), .func (.func 8) #[] #[]] w fun e w' => e = .returned (.tuple #[]) ∧ ∃ o, Sd o xs ∧ Blk w' B gr (rowL valA o).toArray T ∧ Oth gr w w' := by
  obtain ⟨A, hA⟩ : ∃ l, xs.take 20 = l := ⟨_, rfl⟩
  obtain ⟨C, hC⟩ : ∃ l, xs.drop 20 = l := ⟨_, rfl⟩
  have hAC : A ++ C = xs := by rw [← hA, ← hC, List.take_append_drop]
  have hAl : A.length = 20 := by rw [← hA, List.length_take]; omega
  have hCl : 20 + C.length = n := by rw [← hC, List.length_drop]; omega
  have HOK : Hid (∀ x, x ∈ A ∨ x ∈ C → OkS x) := fun x hx => hok x (by rw [← hAC]; exact List.mem_append.2 hx)
  have HI1 : Hid (Calls Try.prog 35 #[.slice (some ⟨gr, 0, none⟩) n c, .int .i64 0, .int .i64 20, .func (.func 8) #[] #[]] w fun e w' => e = .returned (.tuple #[]) ∧ ∃ p, Sd p A ∧ Blk w' B gr (rowL valA ([] ++ p ++ C)).toArray T ∧ Oth gr w w') :=
    insp_any w B gr n c T [] A C (by rw [List.nil_append, hAC]; exact hn) (by omega) (by omega) (by rw [List.nil_append, hAC]; exact hB) (fun x hx => HOK.out x (.inl hx)) 0 20 rfl (by omega)
  have HI2 : Hid (∀ (wx : World) (p : List ValS), Sd p A → Blk wx B gr (rowL valA ([] ++ p ++ C)).toArray T → Calls Try.prog 35 #[.slice (some ⟨gr, 0, none⟩) n c, .int .i64 20, .int .i64 (n : Int), .func (.func 8) #[] #[]] wx fun e w' => e = .returned (.tuple #[]) ∧ ∃ q, Sd q C ∧ Blk w' B gr (rowL valA (p ++ q ++ [])).toArray T ∧ Oth gr wx w') := fun wx p hp hb => by
    have hpl : p.length = 20 := by rw [hp.1.length_eq]; exact hAl
    exact insp_any wx B gr n c T p C [] (by simp only [List.length_append, List.length_nil]; omega) (by omega) (by omega) (by simpa using hb) (fun x hx => HOK.out x (.inr hx)) 20 n hpl hCl
  have HI3 : Hid (∀ (wx : World) (p q : List ValS), Sd p A → Sd q C → Blk wx B gr (rowL valA (p ++ q ++ [])).toArray T → Calls Try.prog 36 #[.slice (some ⟨gr, 0, none⟩) n c, .int .i64 0, .int .i64 20, .int .i64 (n : Int), .func (.func 8) #[] #[]] wx fun e w' => e = .returned (.tuple #[]) ∧ ∃ o, Sd o (p ++ q) ∧ Blk w' B gr (rowL valA ([] ++ o ++ [])).toArray T ∧ Oth gr wx w') := fun wx p q hp hq hb => by
    have hpl : p.length = 20 := by rw [hp.1.length_eq]; exact hAl
    have hql : q.length = C.length := hq.1.length_eq
    exact sym_any 100 wx B gr n c T [] p q [] (by simp only [List.length_append, List.length_nil]; omega) (by omega) (by omega) (by omega) (by omega) hp.2 hq.2 (by simpa using hb) (fun x hx => HOK.out x (by
      simp only [List.mem_append, List.nil_append, List.append_nil] at hx
      rcases hx with h | h
      · exact .inl (hp.1.mem_iff.1 h)
      · exact .inr (hq.1.mem_iff.1 h))) 0 20 n rfl (by omega) (by omega)
  have HAC := Lib.hid hAC
  have hni : (n : Int) < 40 := by omega
  have hnj : (20 : Int) < (n : Int) := by omega
  have q1 : decide ((20 : Int) ≤ (n : Int)) = true := decide_eq_true (by omega)
  have q2 : (20 : Int) ≤ (n : Int) := by omega
  have q3 : 20 ≤ n := by omega
  have q4 : decide (20 ≤ n) = true := decide_eq_true q3
  have q5 : decide ((40 : Int) ≤ (n : Int)) = false := decide_eq_false (by omega)
  have q6 : ¬ (40 : Int) ≤ (n : Int) := by omega
  have q7 : ¬ 40 ≤ n := by omega
  have q8 : decide (40 ≤ n) = false := decide_eq_false q7
  have r1 : decide ((20 : Int) < (n : Int)) = true := decide_eq_true hnj
  have r4 : decide (20 < n) = true := decide_eq_true h20
  have r5 : decide ((40 : Int) < (n : Int)) = false := decide_eq_false (by omega)
  have r6 : ¬ (40 : Int) < (n : Int) := by omega
  have r7 : ¬ 40 < n := by omega
  have r8 : decide (40 < n) = false := decide_eq_false r7
  clear hB hok hn hA hC hAC hAl hCl
  go_enter Try.func32, Try.ntmps32
  go_wp2_with fail
  go_loopw [7, 8] (fun x y wr => (x = .int .i64 0 ∧ y = .int .i64 20 ∧ wr = w) ∨ (x = .int .i64 20 ∧ y = .int .i64 40 ∧ Hid (∃ p, Sd p A ∧ Blk wr B gr (rowL valA ([] ++ p ++ C)).toArray T ∧ Oth gr w wr))) (fun x y _ => (100 - intOf x).toNat)
  case atStart => exact .inl ⟨rfl, rfl, rfl⟩
  case round =>
    rcases hrel with ⟨rfl, rfl, rfl⟩ | ⟨rfl, rfl, HO⟩
    · go_wp2_with fail
      refine HI1.out.mono ?_; rintro e w' ⟨rfl, HO⟩
      go_wp2_with fail
      go_roundw
      case rel => first | exact .inr ⟨rfl, rfl, HO⟩ | ((repeat apply Exists.intro); exact ⟨.inr ⟨rfl, rfl, HO⟩, rfl⟩)
      case measure => simp [intOf]
    · obtain ⟨p, HP⟩ : ∃ p, Hid (Sd p A ∧ Blk wr B gr (rowL valA ([] ++ p ++ C)).toArray T ∧ Oth gr w wr) := HO.out
      clear HO
      go_wp2_with fail
      refine (HI2.out wr p HP.out.1 HP.out.2.1).mono ?_; rintro e w3 ⟨rfl, q, hq1, hq2, hq3⟩
      have HQ : Hid (Sd p A ∧ Sd q C ∧ Blk w3 B gr (rowL valA (p ++ q ++ [])).toArray T ∧ Oth gr w w3) := ⟨HP.out.1, hq1, hq2, HP.out.2.2.trans hq3⟩
      clear HP hq1 hq2 hq3
      go_wp2_with fail
      go_loopw [6, 7, 8] (fun x y z wq => (x = .int .i64 20 ∧ wq = w3) ∨ (x = .int .i64 40 ∧ Hid (∃ o, Sd o xs ∧ Blk wq B gr (rowL valA o).toArray T ∧ Oth gr w wq))) (fun x _ _ _ => (100 - intOf x).toNat)
      case atStart => exact .inl ⟨rfl, rfl⟩
      case round =>
        rename World => w5
        rcases hrel with ⟨rfl, rfl⟩ | ⟨rfl, HO⟩
        · go_wp2_with fail
          go_loopw [7, 8] (fun x y wq => x = .int .i64 0 ∧ y = .int .i64 40 ∧ wq = w5) (fun _ _ _ => 0)
          case atStart => exact ⟨rfl, rfl, rfl⟩
          case round =>
            obtain ⟨rfl, rfl, rfl⟩ := hrel
            go_wp2_with fail
            refine (HI3.out _ p q HQ.out.1 HQ.out.2.1 HQ.out.2.2.1).mono ?_; rintro e w7 ⟨rfl, o, ho1, ho2, ho3⟩
            have HO : Hid (∃ o, Sd o xs ∧ Blk w7 B gr (rowL valA o).toArray T ∧ Oth gr w w7) := by
              refine ⟨o, ⟨?_, ho1.2⟩, by simpa using ho2, HQ.out.2.2.2.trans ho3⟩
              rw [← HAC.out]
              exact ho1.1.trans (HQ.out.1.1.append HQ.out.2.1.1)
            clear ho1 ho2 ho3
            go_wp2_with fail
            go_roundw
            case rel => first | exact .inr ⟨rfl, HO⟩ | ((repeat apply Exists.intro); exact ⟨.inr ⟨rfl, HO⟩, rfl⟩)
            case measure => simp [intOf]
        · go_wp2_with fail
          go_end0
          exact ⟨rfl, HO.out⟩
/-- the stable sort of a row of up to 39 numbers -/
theorem ssv_more (w : World) (B gr n c : Nat) (T : TypeId) (xs : List ValS) (hn : xs.length = n) (hn9 : n < 40)
    (hB : Blk w B gr (rowL valA xs).toArray T) (hok : ∀ x ∈ xs, OkS x) :
    Calls Try.prog 22 #[.slice (some ⟨gr, 0, none⟩) n c, .func (.func 8) #[] #[]] w fun e w' => e = .returned (.tuple #[]) ∧ ∃ o, Sd o xs ∧ Blk w' B gr (rowL valA o).toArray T ∧ Oth gr w w' := by
  by_cases h20 : n ≤ 20
  · exact ssv_any w B gr n c T xs hn h20 hB hok
  have HS := Lib.hid (stv_more w B gr n c T xs hn (by omega) hn9 hB hok)
  clear hB hok hn
  go_enter Try.func22, Try.ntmps22
  go_wp2_with fail
  refine HS.out.mono ?_; rintro e w' ⟨rfl, HO⟩
  go_wp2_with fail
  go_end0
  exact ⟨rfl, HO⟩
end Go.Proofs.Ytjeadmndnbggmaa
