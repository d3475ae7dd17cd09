/- The contracts of what statements on what is handed in lean on: a twin with room behind it, and whether it is kept. -/
import Derived.Test.YtdgeiaiflkpjmaaBytes
import Derived.WalkSpells
import Derived.Deep.QuietTactic
import Derived.BigQuiet
import Derived.IntWalk
namespace Go.Proofs.Ytdgeiaiflkpjmaa
open Go.RowKit

def spareL : List UInt8 := [115, 112, 97, 114, 101]

set_option maxHeartbeats 400000 in
theorem twin_any (A : Option Addr) (xs : List UInt8) (c : Nat) (w : World) (hr : Rd bv w A xs) (hc : xs.length ≤ c) (hl : (xs.length : Int) ≤ 1000000) :
    Calls Try.prog 9 #[.slice A xs.length c] w fun e w' => ∃ A' c', e = .returned (.slice A' xs.length c') ∧ c' ≤ xs.length + 5 ∧ xs.length + 5 ≤ c' ∧
      Rd bv w' A' (xs ++ spareL) ∧ Below w.heap.size w w' := by
  go_enter Try.func9, Try.ntmps9
  go_wp2_with (first
    | (at_make; go_must (refine wpList_mk0 (f := bv) _ bT rfl _ _ rfl w.heap.size _ _ _ rfl rfl (by omega) (by omega) (by omega) (Nat.le_refl _) ?_; intro v1 w1 hown1 hbel1; have hr1 := hr.below hbel1; have hs1 := hbel1.size))
    | (at_builtin; refine wpList_app (f := bv) _ bT rfl _ _ rfl bv_one w.heap.size _ _ _ rfl hown1 _ _ rfl hr1 (by simp [maxLen]; omega) (by simp; omega) hs1 ?_; intro v2 w2 hown2 hbel2; rw [List.nil_append] at hown2; have hs2 := Nat.le_trans hs1 hbel2.size)
    | (at_builtin; go_must (refine wpList_appstr (P := Try.prog) _ bT bZ Try.underlying9 rfl _ _ rfl w.heap.size _ _ rfl hown2 _ rfl (by simp [ByteArray.size]; omega) hs2 ?_; intro v3 w3 hown3 hbel3; obtain ⟨A3, c3, W3, rfl, HW3, hl3a, hl3b, hc3, hm3, hr3, hown3⟩ := hown3.name (xs.length + 5) (by simp))))
  go_ret
  exact ⟨_, _, rfl, hl3a, hl3b, hr3.cast HW3.out, (hbel1.trans hbel2).trans hbel3⟩

theorem Rd.pre {w : World} {A : Option Addr} {xs ys : List UInt8} (h : Rd bv w A (xs ++ ys)) : Rd bv w A xs := fun hn => by
  obtain ⟨b, off, e, hb, hc⟩ := h (by simp; omega)
  exact ⟨b, off, e, hb, fun j hj => by rw [hc j (by simp; omega)]; simp [hj]⟩
theorem Rd.drewN {w : World} {A : Option Addr} {xs : List UInt8} (h : Rd bv w A xs) (k : Nat) : Rd bv (w.drewN k) A xs := h

set_option maxHeartbeats 400000 in
theorem kept_any (A B : Option Addr) (xs : List UInt8) (c d : Nat) (w : World) (hr : Rd bv w A (xs ++ spareL)) (hs : Rd bv w B xs) (hc : xs.length + 5 ≤ c) (hm : c ≤ maxLen) :
    Calls Try.prog 22 #[.slice A xs.length c, .slice B xs.length d] w fun e w' => e = .returned (.bool true) ∧ ∃ n, w' = w.drewN n := by
  unfold maxLen at hm
  have k1 : ∀ n, (convert 24 9 (.slice A (xs.length + 5) c)).run Try.prog (w.drewN n) = .ok (.string ⟨(xs ++ spareL).toArray⟩) (w.drewN n) := fun n => by
    have := conv_str (P := Try.prog) (w.drewN n) 24 9 5 Try.underlying24 Try.underlying5 Try.underlying9 (hr.drewN n) c
    simpa [spareL] using this
  have k2 : ∀ n, (convert 24 9 (.slice B xs.length d)).run Try.prog (w.drewN n) = .ok (.string ⟨xs.toArray⟩) (w.drewN n) := fun n =>
    conv_str (P := Try.prog) (w.drewN n) 24 9 5 Try.underlying24 Try.underlying5 Try.underlying9 (hs.drewN n) d
  have h1 : ((xs.length : Int) != (xs.length : Int)) = false := by simp
  have h2 : decide (c < xs.length + 5) = false := by simp; omega
  have h3 : decide ((c : Int) < (xs.length : Int) + 5) = false := by simp; omega
  go_enter Try.func22, Try.ntmps22
  go_wp2_with fail
  have q1 : IntKind.i64.wrap ((xs.length : Int) + 5) = (xs.length : Int) + 5 := IntWalk.i64_in _ (by omega)
  have q2 : 0 ≤ (xs.length : Int) + 5 := by omega
  have q3 : ((xs.length : Int) + 5).toNat = xs.length + 5 := by omega
  have q4 : (xs.length : Int) + 5 ≤ c := by omega
  have q5 : ((⟨xs.toArray⟩ : ByteArray) ++ (⟨#[115, 112, 97, 114, 101]⟩ : ByteArray)) = ⟨(xs ++ spareL).toArray⟩ := by
    apply ByteArray.ext
    simp [spareL]
  go_quiet (fail)
  go_wp2
  go_ret
  exact ⟨rfl, _, rfl⟩
end Go.Proofs.Ytdgeiaiflkpjmaa
