/- The contracts of the document's reading of kinds: far, sign. -/
import Derived.Test.YtpaacfoiiihbeaaDoorKndA
set_option linter.unusedVariables false
set_option linter.unusedSimpArgs false
namespace Go.Proofs.YtpaacfoiiihbeaaDoor
open Go.RowKit

set_option maxRecDepth 100000 in
set_option maxHeartbeats 6400000 in
theorem refFar_any (s : ByteArray) (l : List UInt8) (w : World) (hl : Tx s l) (hn : ∀ c ∈ l, isNmS c = true) (hs : (l.length : Int) ≤ 8000) :
    Calls Tryd.prog 26 #[.string s] w fun e w' => e = .returned (.bool (farF true l)) ∧ w' = w := by
  have HL := Lib.hid hl
  have HNm := Lib.hid hn
  cases l with
  | nil =>
    obtain ⟨h1, h2⟩ := hl.nil
    rw [show farF true [] = false from rfl]
    clear hl hn HL
    go_enter Tryd.func26, Tryd.ntmps26
    go_wp2_with fail
    go_ret
    exact ⟨rfl, rfl⟩
  | cons c0 l0 =>
    obtain ⟨hp0, t0, -, -, -, hne, hne2⟩ := hl.cons
    generalize hl1 : c0 :: l0 = l at *
    have hlen : 1 ≤ l.length := by rw [← hl1]; simp
    have hz : (s.size : Int) = (l.length : Int) := by rw [hl.size]
    have HZ := Lib.hid hz
    clear hl hn hl1 hz
    go_enter Tryd.func26, Tryd.ntmps26
    go_wp2_with fail
    go_loopw [3] (fun iv wr => ∃ (i : Nat) (b : Bool), iv = .int .i64 (i : Int) ∧ i ≤ l.length ∧ Hid (b = (decide (i = 0) || decide (l[i - 1]? = some 46))) ∧ Hid (farF true l = farF b (l.drop i)) ∧ wr = w) (fun iv _ => 10000 - (intOf iv).toNat)
    case atStart => exact ⟨0, true, rfl, Nat.zero_le _, by unfold Hid; simp, by unfold Hid; simp, rfl⟩
    case round =>
      obtain ⟨i, b, rfl, hi, HB, HF, rfl⟩ := hrel
      obtain ⟨l1, hl1⟩ : ∃ l1, Hid (l.drop i = l1) := ⟨_, rfl⟩
      have hl1n : l1.length + i = l.length := by rw [← hl1.out]; simp; omega
      rw [hl1.out] at HF
      have hi8 : (i : Int) ≤ 8000 := by omega
      cases l1 with
      | nil =>
        have hil : i = l.length := by simpa using hl1n
        obtain ⟨hpl, hxl⟩ := HL.out.idx (l.length - 1) (by omega)
        obtain ⟨p, hp⟩ : ∃ p, Hid (l[l.length - 1]'(by omega) = p) := ⟨_, Lib.hid rfl⟩
        have hxp : s[l.length - 1]'hpl = p := by rw [hxl]; exact hp.out
        have hbp : b = decide (p = 46) := by
          rw [HB.out, hil, List.getElem?_eq_getElem (by omega), hp.out, decide_eq_false (by omega : ¬ l.length = 0)]
          simp
        have hr : farF true l = ((p.toNat : Int) != 46) := by
          rw [HF.out, hbp]
          show (!decide (p = 46)) = _
          rw [Bool.eq_iff_iff]
          simp only [Bool.not_eq_true', decide_eq_false_iff_not, bne_iff_ne, ne_eq, ← UInt8.toNat_inj]
          show ¬ p.toNat = 46 ↔ _
          omega
        obtain ⟨j, hj⟩ : ∃ j, l.length - 1 = j := ⟨_, rfl⟩
        have hjI : (s.size : Int) - 1 = (j : Int) := by rw [HZ.out]; omega
        have hjl : (j : Int) < (s.size : Int) := by omega
        simp only [hj] at hxp hpl
        have g1 : decide ((i : Int) < (s.size : Int)) = false := decide_eq_false (by rw [HZ.out]; omega)
        have g2 : ¬ i < s.size := by have := HZ.out; omega
        have HR := Lib.hid hr
        clear hxl hbp hr HB HF
        go_wp2_with fail
        go_ret
        exact ⟨congrArg (fun b => Ending.returned (Value.bool b)) HR.out.symm, rfl⟩
      | cons c r =>
        obtain ⟨hil, hp, hxc⟩ := HL.out.byteK i c r hl1.out
        have g1 : decide ((i : Int) < (s.size : Int)) = true := decide_eq_true (by omega)
        have g2 : (i : Int) < (s.size : Int) := by omega
        have hcm : isNmS c = true := HNm.out c (by
          have : c ∈ l.drop i := by rw [hl1.out]; simp
          exact List.mem_of_mem_drop this)
        have hst := far_step b c r hcm
        have HST := Lib.hid hst
        have hnb : Hid (decide (c = 46) = (decide (i + 1 = 0) || decide (l[i + 1 - 1]? = some 46))) := by
          unfold Hid
          have e1 : l[i]? = some c := by
            have : (l.drop i)[0]? = some c := by rw [hl1.out]; rfl
            simpa using this
          rw [Nat.add_sub_cancel, e1]; simp
        obtain ⟨B, HBl⟩ : ∃ B, Hid (isLtS c = B) := ⟨_, rfl⟩
        have hcall : ∀ w, Calls Tryd.prog 24 #[.int .u8 (c.toNat : Int)] w fun e w' => e = .returned (.bool B) ∧ w' = w := by
          intro w; have := refLetter_any c w; rw [HBl.out] at this; exact this
        have HD := Lib.hid (drop_cons hl1.out)
        clear hst hcm
        by_cases hi0 : i = 0
        · subst hi0
          have hb1 : b = true := by rw [HB.out]; simp
          subst hb1
          cases B
          · have hr : farF true l = false := by rw [HF.out, HST.out, HBl.out]; rfl
            have HR := Lib.hid hr
            clear HF HST HB hr
            go_wp2_with fail
            refine (hcall _).mono ?_; rintro e w' ⟨rfl, rfl⟩
            go_wp2_with fail
            go_ret
            exact ⟨congrArg (fun b => Ending.returned (Value.bool b)) HR.out.symm, rfl⟩
          · have hr : Hid (farF true l = farF (decide (c = 46)) r) := by unfold Hid; rw [HF.out, HST.out, HBl.out]; rfl
            clear HF HST HB
            go_wp2_with fail
            refine (hcall _).mono ?_; rintro e w' ⟨rfl, rfl⟩
            go_wp2_with fail
            go_roundw
            case rel => exact ⟨1, _, rfl, by omega, hnb, by rw [show l.drop 1 = r from HD.out]; exact hr, trivial⟩
            case measure => simp [intOf]
        · obtain ⟨j, hj⟩ : ∃ j, i - 1 = j := ⟨_, rfl⟩
          obtain ⟨hpl, hxl⟩ := HL.out.idx j (by omega)
          obtain ⟨p, hpe⟩ : ∃ p, Hid (l[j]'(by omega) = p) := ⟨_, Lib.hid rfl⟩
          have hxp : s[j]'hpl = p := by rw [hxl]; exact hpe.out
          have hbp : b = decide (p = 46) := by
            rw [HB.out, hj, List.getElem?_eq_getElem (by omega), hpe.out, decide_eq_false hi0]
            simp
          have hjI : (i : Int) - 1 = (j : Int) := by omega
          have hjl : (j : Int) < (s.size : Int) := by omega
          have z1 : ((i : Int) == 0) = false := by rw [beq_eq_false_iff_ne]; omega
          by_cases hp46 : p = 46
          · have z2 : ((p.toNat : Int) == 46) = true := by subst hp46; rfl
            have hb1 : b = true := by rw [hbp]; exact decide_eq_true hp46
            subst hb1
            cases B
            · have hr : farF true l = false := by rw [HF.out, HST.out, HBl.out]; rfl
              have HR := Lib.hid hr
              clear HF HST HB hr hp46 hbp hxl
              go_wp2_with fail
              refine (hcall _).mono ?_; rintro e w' ⟨rfl, rfl⟩
              go_wp2_with fail
              go_ret
              exact ⟨congrArg (fun b => Ending.returned (Value.bool b)) HR.out.symm, rfl⟩
            · have hr : Hid (farF true l = farF (decide (c = 46)) r) := by unfold Hid; rw [HF.out, HST.out, HBl.out]; rfl
              clear HF HST HB hp46 hbp hxl
              go_wp2_with fail
              refine (hcall _).mono ?_; rintro e w' ⟨rfl, rfl⟩
              go_wp2_with fail
              go_roundw
              case rel => exact ⟨i + 1, _, by go_num, by omega, hnb, by rw [HD.out]; exact hr, trivial⟩
              case measure => simp [intOf]; omega
          · have z2 : ((p.toNat : Int) == 46) = false := by
              rw [beq_eq_false_iff_ne]; intro h; exact hp46 (UInt8.toNat_inj.1 (by show _ = 46; omega))
            have hb1 : b = false := by rw [hbp]; exact decide_eq_false hp46
            subst hb1
            have hr : Hid (farF true l = farF (decide (c = 46)) r) := by unfold Hid; rw [HF.out, HST.out]; rfl
            clear HF HST HB hp46 hbp hxl
            go_wp2_with fail
            go_roundw
            case rel => exact ⟨i + 1, _, by go_num, by omega, hnb, by rw [HD.out]; exact hr, trivial⟩
            case measure => simp [intOf]; omega

theorem results_none {P : Program} {fn : Func} (h : fn.results = #[]) (tmps : Array Value) (w : World) : (results fn tmps).run P w = .ok (.tuple #[]) w := by
  simp [results, h]
/-- the reader's block -/
def TyC (w : World) (b : Nat) (s : ByteArray) (o e : Nat) : Prop :=
  Blk w 0 b #[.string s, .int .i64 (o : Int), .int .i64 (e : Int)] 51
theorem TyC.drew {w : World} {b : Nat} {s : ByteArray} {o e : Nat} (h : TyC w b s o e) (n : Nat) : TyC (w.drewN n) b s o e := Blk.drew h n
theorem TyC.put1 {w : World} {b : Nat} {s : ByteArray} {o e : Nat} (h : TyC w b s o e) (o' : Nat) : TyC (w.setCell ⟨b, 1, none⟩ (.int .i64 (o' : Int))) b s o' e := Blk.put h 1 _
theorem TyC.put2 {w : World} {b : Nat} {s : ByteArray} {o e : Nat} (h : TyC w b s o e) (e' : Nat) : TyC (w.setCell ⟨b, 2, none⟩ (.int .i64 (e' : Int))) b s o e' := Blk.put h 2 _
theorem TyC.at_ {w : World} {b : Nat} {s : ByteArray} {o e : Nat} (h : TyC w b s o e) : atK b w = o := by
  unfold atK
  rw [show w.cell? ⟨b, 1, none⟩ = some (.int .i64 (o : Int)) from h.cell 1]
  simp
theorem TyC.cells {w : World} {b : Nat} {s : ByteArray} {o e : Nat} (h : TyC w b s o e) :
    w.cell? ⟨b, 0, none⟩ = some (.string s) ∧ w.cell? ⟨b, 1, none⟩ = some (.int .i64 (o : Int)) ∧ w.cell? ⟨b, 2, none⟩ = some (.int .i64 (e : Int)) ∧ w.frozen? ⟨b, 1, none⟩ = false ∧ w.frozen? ⟨b, 2, none⟩ = false :=
  ⟨h.cell 0, h.cell 1, h.cell 2, h.free 1, h.free 2⟩

set_option maxRecDepth 100000 in
set_option maxHeartbeats 1600000 in
theorem tsign_any (b : Nat) (s : ByteArray) (l : List UInt8) (o : Nat) (x : UInt8) (w : World) (hC : TyC w b s o 0) (hl : Tx s l) (ho : o ≤ l.length) (hs : (l.length : Int) ≤ 8000) :
    Calls Tryd.prog 29 #[.pointer (some ⟨b, 0, none⟩), .int .u8 (x.toNat : Int)] w fun e w' => e = .returned (.tuple #[]) ∧
      TyC w' b s (o + (if (l.drop o).head? = some x then 1 else 0)) (if (l.drop o).head? = some x then 0 else 2) ∧ Oth b w w' := by
  have HL := Lib.hid hl
  have HC := Lib.hid hC
  obtain ⟨c0, c1, c2, f1, f2⟩ := hC.cells
  have hz : (s.size : Int) = (l.length : Int) := by rw [hl.size]
  have HZ := Lib.hid hz
  obtain ⟨l1, hl1⟩ : ∃ l1, Hid (l.drop o = l1) := ⟨_, rfl⟩
  have hl1n : l1.length + o = l.length := by rw [← hl1.out]; simp; omega
  rw [hl1.out]
  clear hl hC hz
  cases l1 with
  | nil =>
    have g1 : ((o : Int) == (s.size : Int)) = true := by rw [beq_iff_eq, HZ.out]; simp at hl1n; omega
    go_enter Tryd.func29, Tryd.ntmps29
    go_wp2_with fail
    go_quiet (fail)
    go_wp2_with fail
    first | go_end0 | refine bodyPost_ret (results_none rfl _ _) rfl ?_
    exact ⟨rfl, (HC.out.drew _).put2 2, (Oth.nx ((Nx.refl _).dr _)).own⟩
  | cons c r =>
    obtain ⟨hol, hp, hxc⟩ := HL.out.byteK o c r hl1.out
    have g1 : ((o : Int) == (s.size : Int)) = false := by rw [beq_eq_false_iff_ne]; omega
    have g2 : (o : Int) < (s.size : Int) := by omega
    have ho8 : (o : Int) ≤ 8000 := by omega
    by_cases hx : c = x
    · have g3 : ((c.toNat : Int) != (x.toNat : Int)) = false := by subst hx; simp
      have e2 : (c :: r).head? = some x := by rw [hx]; rfl
      rw [if_pos e2, if_pos e2]
      have HX := Lib.hid hx
      clear hx e2
      go_enter Tryd.func29, Tryd.ntmps29
      go_wp2_with fail
      go_quiet (fail)
      go_wp2_with fail
      first | go_end0 | refine bodyPost_ret (results_none rfl _ _) rfl ?_
      exact ⟨rfl, (HC.out.drew _).put1 (o + 1), (Oth.nx ((Nx.refl _).dr _)).own⟩
    · have g3 : ((c.toNat : Int) != (x.toNat : Int)) = true := by
        rw [bne_iff_ne]
        intro h
        exact hx (UInt8.toNat_inj.1 (by omega))
      have e2 : ¬ (c :: r).head? = some x := by simpa using hx
      rw [if_neg e2, if_neg e2]
      clear hx e2
      go_enter Tryd.func29, Tryd.ntmps29
      go_wp2_with fail
      go_quiet (fail)
      go_wp2_with fail
      first | go_end0 | refine bodyPost_ret (results_none rfl _ _) rfl ?_
      exact ⟨rfl, (HC.out.drew _).put2 2, (Oth.nx ((Nx.refl _).dr _)).own⟩
end Go.Proofs.YtpaacfoiiihbeaaDoor
