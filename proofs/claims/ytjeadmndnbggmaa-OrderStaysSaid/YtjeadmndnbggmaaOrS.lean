/- Texts held against each other, byte by byte. -/
import Derived.Test.YtjeadmndnbggmaaOrA
import Derived.Laws.Externs
import Derived.Lib.Bytealg
set_option linter.unusedVariables false
set_option linter.unusedSimpArgs false
namespace Go.Proofs.Ytjeadmndnbggmaa
open Go.RowKit

theorem cmpB_find : ∀ l m : List UInt8, (match (List.range (min l.length m.length)).find? (fun i => l.getD i 0 != m.getD i 0) with
    | some i => if l.getD i 0 < m.getD i 0 then (-1 : Int) else 1
    | none => if l.length < m.length then -1 else if l.length > m.length then 1 else 0) = cmpB l m
  | [], [] => rfl
  | [], _ :: _ => by simp [cmpB]
  | _ :: _, [] => by simp [cmpB]
  | x :: xs, y :: ys => by
    have ih := cmpB_find xs ys
    rw [List.length_cons, List.length_cons, Nat.succ_min_succ, List.range_succ_eq_map, List.find?_cons]
    unfold cmpB
    by_cases h : x = y
    · subst h
      simp only [List.getD_cons_zero, bne_self_eq_false, UInt8.lt_irrefl, if_false]
      rw [← ih, List.find?_map]
      have e : ((fun i => (x :: xs).getD i 0 != (x :: ys).getD i 0) ∘ Nat.succ) = fun i => xs.getD i 0 != ys.getD i 0 := by
        funext i; simp only [Function.comp, Nat.succ_eq_add_one, List.getD_cons_succ]
      rw [e]
      cases List.find? (fun i => xs.getD i 0 != ys.getD i 0) (List.range (min xs.length ys.length)) with
      | none => simp
      | some i => simp [List.getD_cons_succ]
    · have hb : (x != y) = true := by simpa using h
      simp only [List.getD_cons_zero, hb]
      by_cases h1 : x < y
      · rw [if_pos h1, if_pos h1]
      · have h2 : y < x := by
          rcases Nat.lt_trichotomy x.toNat y.toNat with h3 | h3 | h3
          · exact absurd h3 h1
          · exact absurd (UInt8.toNat_inj.1 h3) h
          · exact h3
        rw [if_neg h1, if_neg h1, if_pos h2]
theorem ext_cmp (l m : List UInt8) : Extern.BytealgCompare.cmp ⟨l.toArray⟩ ⟨m.toArray⟩ = cmpB l m := by
  rw [← cmpB_find]
  unfold Extern.BytealgCompare.cmp
  have e : (List.range (min (ByteArray.mk l.toArray).size (ByteArray.mk m.toArray).size)).find? (fun i => (ByteArray.mk l.toArray)[i]! != (ByteArray.mk m.toArray)[i]!) = (List.range (min l.length m.length)).find? (fun i => l.getD i 0 != m.getD i 0) := by
    apply Lib.find_congr
    intro i hi
    have hi' : i < min l.length m.length := List.mem_range.1 hi
    have e1 : (ByteArray.mk l.toArray)[i]! = l[i]'(by omega) := getElem!_pos (ByteArray.mk l.toArray) i (show i < l.length by omega)
    have e2 : (ByteArray.mk m.toArray)[i]! = m[i]'(by omega) := getElem!_pos (ByteArray.mk m.toArray) i (show i < m.length by omega)
    have e3 : l.getD i 0 = l[i]'(by omega) := by simp [List.getD, List.getElem?_eq_getElem (show i < l.length by omega)]
    have e4 : m.getD i 0 = m[i]'(by omega) := by simp [List.getD, List.getElem?_eq_getElem (show i < m.length by omega)]
    rw [e1, e2, e3, e4]
  rw [e]
  cases hf : (List.range (min l.length m.length)).find? (fun i => l.getD i 0 != m.getD i 0) with
  | none => rfl
  | some i =>
    have hi : i < min l.length m.length := List.mem_range.1 (List.mem_of_find?_eq_some hf)
    have e1 : (ByteArray.mk l.toArray)[i]! = l[i]'(by omega) := getElem!_pos (ByteArray.mk l.toArray) i (show i < l.length by omega)
    have e2 : (ByteArray.mk m.toArray)[i]! = m[i]'(by omega) := getElem!_pos (ByteArray.mk m.toArray) i (show i < m.length by omega)
    have e3 : l.getD i 0 = l[i]'(by omega) := by simp [List.getD, List.getElem?_eq_getElem (show i < l.length by omega)]
    have e4 : m.getD i 0 = m[i]'(by omega) := by simp [List.getD, List.getElem?_eq_getElem (show i < m.length by omega)]
    simp only [e1, e2, e3, e4]
theorem run_cmps (l m : List UInt8) (w : World) : (callFunc 34 #[.string ⟨l.toArray⟩, .string ⟨m.toArray⟩]).run Try.prog w = .ok (.value (.int .i64 (cmpB l m))) w := by
  rw [run_callFunc_extern (e := Extern.BytealgCompare.compare) (fn := Try.f34) (by kernel_rfl) (by kernel_rfl) (by kernel_rfl) (by kernel_rfl) (by kernel_rfl)]
  have : (Extern.BytealgCompare.compare #[.string ⟨l.toArray⟩, .string ⟨m.toArray⟩]).run Try.prog w = .ok (.int .i64 (cmpB l m)) w := by
    change Sem.run Try.prog (do
      let a ← Extern.Bytes.bytesOf (.string ⟨l.toArray⟩)
      let b ← Extern.Bytes.bytesOf (.string ⟨m.toArray⟩)
      pure (goInt (Extern.BytealgCompare.cmp a b))) w = _
    simp only [Extern.Bytes.bytesOf, Sem.run_bind, Sem.run_pure, Result.andThen]
    rw [ext_cmp]; rfl
  rw [this]; rfl
theorem cmps_any (w : World) (l m : List UInt8) : Calls Try.prog 18 #[.string ⟨l.toArray⟩, .string ⟨m.toArray⟩] w fun e w' => e = .returned (.int .i64 (cmpB l m)) ∧ w' = w := by
  have h1 : Calls Try.prog 30 #[.string ⟨l.toArray⟩, .string ⟨m.toArray⟩] w fun e w' => e = .returned (.int .i64 (cmpB l m)) ∧ w' = w := by
    have hd := run_cmps l m w
    go_enter Try.func30, Try.ntmps30
    go_wp2_with fail
    go_ret
    exact ⟨rfl, rfl⟩
  have H1 := Lib.hid h1
  clear h1
  go_enter Try.func18, Try.ntmps18
  go_wp2_with fail
  refine H1.out.mono ?_; rintro e w' ⟨rfl, hw⟩; obtain rfl := hw.symm
  go_wp2_with fail
  go_ret
  exact ⟨rfl, rfl⟩
end Go.Proofs.Ytjeadmndnbggmaa
