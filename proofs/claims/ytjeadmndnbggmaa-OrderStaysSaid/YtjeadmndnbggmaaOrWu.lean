/- Sets' elements in order, of up to 39 (made by mkWh.py). -/
import Derived.Test.YtjeadmndnbggmaaOrU
import Derived.Test.YtjeadmndnbggmaaOrWs
import Derived.Deep.DeepCutAuto
set_option linter.unusedVariables false
set_option linter.unusedSimpArgs false
namespace Go.Proofs.Ytjeadmndnbggmaa
open Go.RowKit

theorem se_more (w : World) (B gr n : Nat) (xs : List ValS) (hn : xs.length = n) (hn9 : n < 40)
    (hB : Blk w B gr (rowL valA xs).toArray 29) (hok : ∀ x ∈ xs, OkS x) :
    Calls Try.prog 12 #[.slice (some ⟨gr, 0, none⟩) n n] w fun e w' => ∃ us, e = .returned (.slice (some ⟨gr, 0, none⟩) us.length n) ∧ Once us xs ∧ RdO w' (some ⟨gr, 0, none⟩) us ∧ Oth gr w w' := by
  have HS := Lib.hid (ssv_more w B gr n n 29 xs hn hn9 hB hok)
  have HC : Hid (∀ wx o, Sd o xs → Blk wx B gr (rowL valA o).toArray 29 → Calls Try.prog 23 #[.slice (some ⟨gr, 0, none⟩) n n, .func (.func 24) #[] #[]] wx fun e w' => ∃ us, e = .returned (.slice (some ⟨gr, 0, none⟩) us.length n) ∧ Once us xs ∧ RdO w' (some ⟨gr, 0, none⟩) us ∧ Oth gr wx w') := fun wx o ho hb => by
    refine (compact_any wx B gr n n o (by rw [ho.1.length_eq, hn]) (by omega) (Nat.le_refl _) hb (fun x hx => hok x (ho.1.mem_iff.1 hx)) ho.2 (by omega)).mono ?_
    rintro e w' ⟨us, rfl, h1, h2, h3⟩
    exact ⟨us, rfl, h1.perm ho.1, h2, h3⟩
  clear hB hok hn
  go_enter Try.func12, Try.ntmps12
  go_wp2_with fail
  refine HS.out.mono ?_; rintro e w1 ⟨rfl, o, ho, hb, hot⟩
  have HC2 := Lib.hid (HC.out w1 o ho hb)
  have HOT := Lib.hid hot
  clear ho hb hot
  go_wp2_with fail
  refine HC2.out.mono ?_; rintro e w2 ⟨us, rfl, h1, h2, h3⟩
  have HR : Hid (Once us xs ∧ RdO w2 (some ⟨gr, 0, none⟩) us ∧ Oth gr w w2) := ⟨h1, h2, HOT.out.trans h3⟩
  clear h1 h2 h3
  go_wp2_with fail
  go_ret
  exact ⟨us, rfl, HR.out⟩

end Go.Proofs.Ytjeadmndnbggmaa
