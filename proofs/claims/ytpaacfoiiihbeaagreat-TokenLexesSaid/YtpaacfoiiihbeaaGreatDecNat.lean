/- The contract of dec's digits as a number. -/
import Derived.Test.YtpaacfoiiihbeaaGreatDecO
import Derived.Test.YtpaacfoiiihbeaaGreatDecB
namespace Go.Proofs.YtpaacfoiiihbeaaGreat
open Go.RowKit

theorem valS_snoc (l : List UInt8) (c : UInt8) : valS (l ++ [c]) = 10 * valS l + digV c := by
  unfold valS; rw [List.foldl_append]; rfl
theorem digV_lt (c : UInt8) (h : isDig c = true) : digV c < 10 := by
  have := (isDig_iff c).1 h
  unfold digV; omega
theorem valS_take (l : List UInt8) (n : Nat) (h : n < l.length) : valS (l.take (n + 1)) = 10 * valS (l.take n) + digV l[n] := by
  rw [List.take_append_getElem h |>.symm, valS_snoc]
theorem valS_lt (l : List UInt8) (h : digs l) : ∀ n, n ≤ l.length → valS (l.take n) < 10 ^ n := by
  intro n
  induction n with
  | zero => intro _; simp [valS]
  | succ n ih =>
    intro hn
    rw [valS_take l n hn, Nat.pow_succ]
    have h1 := ih (by omega)
    have h2 := digV_lt l[n] (h _ (List.getElem_mem hn))
    omega

set_option maxRecDepth 100000 in
set_option maxHeartbeats 1600000 in
theorem natural_any (s : ByteArray) (l : List UInt8) (w : World) (hl : Tx s l) (hd : digs l) (hs : (l.length : Int) ≤ 1000) :
    Calls Tryz.prog 99 #[.string s] w fun e w' => ∃ v', e = .returned v' ∧ IsNum w' v' (valS l) ∧ Nx w w' := by
  have HL := Lib.hid hl
  have HD := Lib.hid hd
  have hz : (s.size : Int) ≤ 1000 := by rw [hl.size]; exact hs
  clear hl hd
  go_enter Tryz.func99, Tryz.ntmps99
  go_wp2_with fail
  go_loopw [3, 7] (fun a v wr => ∃ (n : Nat), v = .int .i64 n ∧ n ≤ l.length ∧ IsNum wr a (valS (l.take n)) ∧ Nx w wr) (fun _ v _ => (1000 - intOf v).toNat)
  case atStart => exact ⟨0, rfl, Nat.zero_le _, IsNum.zero _, Nx.refl _⟩
  case round =>
    obtain ⟨n, rfl, hn, hnum, hb⟩ := hrel
    obtain ⟨Av, lv, cv, rfl⟩ := hnum.sl
    obtain ⟨V, HV⟩ : ∃ V, Hid (valS (l.take n) = V) := ⟨_, rfl⟩
    rw [HV.out] at hnum
    have hVl : V < 2 ^ (4 * n) := by
      rw [← HV.out]; exact Nat.lt_of_lt_of_le (valS_lt l HD.out n hn) (ten_two n)
    by_cases hlt : n < l.length
    · obtain ⟨hp, e0⟩ := HL.out.idx n hlt
      obtain ⟨c, hc⟩ : ∃ c, l[n] = c := ⟨_, rfl⟩
      rw [hc] at e0
      have hcd := (isDig_iff c).1 (HD.out c (by rw [← hc]; exact List.getElem_mem hlt))
      obtain ⟨D, hD⟩ : ∃ D : Nat, (c.toNat : Int) - 48 = (D : Int) := ⟨c.toNat - 48, by omega⟩
      have h48 : (48 : Int) ≤ (c.toNat : Int) := by omega
      have h57 : (c.toNat : Int) ≤ 57 := by omega
      have hD9 : D ≤ 9 := by omega
      have wr8 : IntKind.u8.wrap (D : Int) = (D : Int) := by rw [IntKind.wrap_u8]; omega
      have wr64 : IntKind.u64.wrap (D : Int) = (D : Int) := by rw [IntKind.wrap_u64]; omega
      have HN : Hid (valS (l.take (n + 1)) = V * 10 + D) := by
        unfold Hid; rw [valS_take l n hlt, HV.out, hc]; unfold digV; omega
      clear hcd hc
      go_wp2_with fail
      refine wp_region_hyb [(0, true), (3, true), (4, true), (5, true), (6, true), (7, true), (1, false), (2, false), (8, false), (9, false), (10, true)] rfl (by kernel_rfl) ?_
      iterate 6 (refine hyb_calm rfl (fun K hK => ?_); go_simp; refine hK _ ?_; clear hK K)
      refine hyb_alone rfl (fun w1 hn1 K hK => ?_)
      go_simp
      refine (of_any 10 _ (by decide)).mono ?_; rintro e w2 ⟨v2, rfl, hv2, hw2⟩
      refine hK _ _ hw2 ?_
      clear hK K
      refine hyb_alone rfl (fun w3 hn3 K hK => ?_)
      go_simp
      have hN3 : Nx wr w3 := Nx.trans (Nx.trans hn1 hw2) hn3
      refine (mul_n _ _ V 10 KB _ ((hnum.below hN3).few hVl (by omega)) ((hv2.below hn3).few (show 10 < 2 ^ 4 by decide) (by decide)) KB_le).mono ?_; rintro e w4 ⟨v4, rfl, hv4, hw4⟩
      refine hK _ _ hw4 ?_
      clear hK K
      refine hyb_alone rfl (fun w5 hn5 K hK => ?_)
      go_simp
      refine (of_any D _ (by omega)).mono ?_; rintro e w6 ⟨v6, rfl, hv6, hw6⟩
      refine hK _ _ hw6 ?_
      clear hK K
      refine hyb_alone rfl (fun w7 hn7 K hK => ?_)
      go_simp
      have hv4' := hv4.below (Nx.trans (Nx.trans hn5 hw6) hn7)
      refine (add_n _ _ (V * 10) D KB _ (hv4'.few (show V * 10 < 2 ^ (4 * n + 4) by rw [Nat.pow_add]; omega) (by omega)) ((hv6.below hn7).few (show D < 2 ^ 4 by omega) (by decide)) KB_le).mono ?_; rintro e w8 ⟨v8, rfl, hv8, hw8⟩
      refine hK _ _ hw8 ?_
      clear hK K
      refine hyb_calm rfl (fun K hK => ?_); go_simp; refine hK _ ?_; clear hK K
      refine hyb_nil (fun w9 hn9 => ?_)
      have hN9 : Nx w w9 := Nx.trans (Nx.trans (Nx.trans (Nx.trans (Nx.trans (Nx.trans (Nx.trans hb hN3) hw4) hn5) hw6) hn7) hw8) hn9
      go_wp2_with fail
      go_roundw
      case rel => exact ⟨n + 1, by go_num, hlt, by rw [HN.out]; exact hv8.below hn9, hN9⟩
      case measure => simp [intOf]; omega
    · have g1 : ¬ n < s.size := by rw [HL.out.size]; omega
      have HE : Hid (valS l = V) := by unfold Hid; rw [← HV.out, List.take_of_length_le (by omega)]
      go_wp2_with fail
      go_ret
      exact ⟨_, rfl, by rw [HE.out]; exact hnum, hb⟩
end Go.Proofs.YtpaacfoiiihbeaaGreat
