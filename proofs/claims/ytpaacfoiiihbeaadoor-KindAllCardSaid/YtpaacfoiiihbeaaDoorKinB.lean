/- The contracts of the cursor's word and sign. -/
import Derived.Test.YtpaacfoiiihbeaaDoorKinF
set_option linter.unusedVariables false
set_option linter.unusedSimpArgs false
namespace Go.Proofs.YtpaacfoiiihbeaaDoor
open Go.RowKit

/-- the place of a cursor -/
def atK (b : Nat) (w : World) : Nat := match w.cell? ⟨b, 1, none⟩ with
  | some (.int _ n) => n.toNat
  | _ => 0
theorem CurK.at_ {w : World} {b : Nat} {s : ByteArray} {o : Nat} {d dp : Int} {v : Value} {sb : Nat} (h : CurK w b s (o : Int) d dp v sb) : atK b w = o := by
  unfold atK
  rw [show w.cell? ⟨b, 1, none⟩ = some (.int .i64 (o : Int)) from h.cell 1]
  simp
theorem span_at (p : UInt8 → Bool) (l : List UInt8) (i : Nat) (h : i < l.length) : spanN p (l.drop i) = if p l[i] then spanN p (l.drop (i + 1)) + 1 else 0 := by
  rw [List.drop_eq_getElem_cons h]
  rfl

theorem Tx.byteK {s : ByteArray} {l : List UInt8} (h : Tx s l) (o : Nat) (c : UInt8) (r : List UInt8) (hd : l.drop o = c :: r) : o < l.length ∧ ∃ hp : o < s.size, s[o]'hp = c := by
  have h1 : o < l.length := by
    rcases Nat.lt_or_ge o l.length with h | h
    · exact h
    · rw [List.drop_eq_nil_iff.2 h] at hd; cases hd
  obtain ⟨hp, e⟩ := h.idx o h1
  refine ⟨h1, hp, ?_⟩
  rw [e]
  have e2 := List.drop_eq_getElem_cons h1
  rw [e2] at hd
  injection hd
theorem drop_cons {l r : List UInt8} {o : Nat} {c : UInt8} (hd : l.drop o = c :: r) : l.drop (o + 1) = r := by
  rw [← List.drop_drop, hd]; rfl
theorem CurK.drew {w : World} {b : Nat} {s : ByteArray} {o d dp : Int} {v : Value} {sb : Nat} (h : CurK w b s o d dp v sb) (n : Nat) : CurK (w.drewN n) b s o d dp v sb := Blk.drew h n
theorem CurK.put1 {w : World} {b : Nat} {s : ByteArray} {o d dp : Int} {v : Value} {sb : Nat} (h : CurK w b s o d dp v sb) (o' : Int) : CurK (w.setCell ⟨b, 1, none⟩ (.int .i64 o')) b s o' d dp v sb := Blk.put h 1 _
theorem CurK.put2 {w : World} {b : Nat} {s : ByteArray} {o d dp : Int} {v : Value} {sb : Nat} (h : CurK w b s o d dp v sb) (d' : Int) : CurK (w.setCell ⟨b, 2, none⟩ (.int .i64 d')) b s o d' dp v sb := Blk.put h 2 _
theorem CurK.put3 {w : World} {b : Nat} {s : ByteArray} {o d dp : Int} {v : Value} {sb : Nat} (h : CurK w b s o d dp v sb) (dp' : Int) : CurK (w.setCell ⟨b, 3, none⟩ (.int .i64 dp')) b s o d dp' v sb := Blk.put h 3 _
theorem CurK.put4 {w : World} {b : Nat} {s : ByteArray} {o d dp : Int} {v : Value} {sb : Nat} (h : CurK w b s o d dp v sb) (v' : Value) : CurK (w.setCell ⟨b, 4, none⟩ v') b s o d dp v' sb := Blk.put h 4 _

set_option maxRecDepth 100000 in
set_option maxHeartbeats 1600000 in
theorem word_any (b : Nat) (s : ByteArray) (l : List UInt8) (o : Nat) (d dp : Int) (v : Value) (sb : Nat) (w : World) (hC : CurK w b s (o : Int) d dp v sb) (hl : Tx s l) (ho : o ≤ l.length) (hs : (l.length : Int) ≤ 8000) :
    Calls Tryd.prog 30 #[.pointer (some ⟨b, 0, none⟩)] w fun e w' => ∃ u, e = .returned (.string u) ∧ Hid (Tx u ((l.drop o).take (spanN isNmS (l.drop o)))) ∧ CurK w' b s ((o + spanN isNmS (l.drop o) : Nat) : Int) d dp v sb ∧ Oth b w w' := by
  have HL := Lib.hid hl
  have HC := Lib.hid hC
  obtain ⟨N, hN⟩ : ∃ N, Hid (spanN isNmS (l.drop o) = N) := ⟨_, rfl⟩
  rw [hN.out]
  have hNl : o + N ≤ l.length := by have := spanN_le isNmS (l.drop o); rw [hN.out] at this; simp at this; omega
  have c1 : w.cell? ⟨b, 1, none⟩ = some (.int .i64 (o : Int)) := hC.cell 1
  clear hl hC
  go_enter Tryd.func30, Tryd.ntmps30
  go_wp2_with fail
  clear c1
  go_loopw [] (fun wr => ∃ i : Nat, CurK wr b s (i : Int) d dp v sb ∧ o ≤ i ∧ i ≤ l.length ∧ Hid (N + o = spanN isNmS (l.drop i) + i) ∧ Oth b w wr) (fun wr => 10000 - atK b wr)
  case atStart => exact ⟨o, HC.out, Nat.le_refl _, ho, by unfold Hid; rw [hN.out], Oth.refl _ _⟩
  case round =>
    obtain ⟨i, hC, hoi, hi, HS, hO⟩ := hrel
    have hat := hC.at_
    have c0 : wr.cell? ⟨b, 0, none⟩ = some (.string s) := hC.cell 0
    have c1 : wr.cell? ⟨b, 1, none⟩ = some (.int .i64 (i : Int)) := hC.cell 1
    have f1 : wr.frozen? ⟨b, 1, none⟩ = false := hC.free 1
    have HAT := Lib.hid hat
    have HC1 := Lib.hid hC
    have HO := Lib.hid hO
    have hz : (s.size : Int) = (l.length : Int) := by rw [HL.out.size]
    have HZ := Lib.hid hz
    clear hat hC hO hz
    obtain ⟨l1, hl1⟩ : ∃ l1, Hid (l.drop i = l1) := ⟨_, rfl⟩
    have hl1n : l1.length + i = l.length := by rw [← hl1.out]; simp; omega
    rw [hl1.out] at HS
    cases l1 with
    | nil =>
      have hNi : N + o = i := by have := HS.out; rw [show spanN isNmS [] = 0 from rfl] at this; omega
      have hi1 : (i : Int) ≤ (s.size : Int) := by rw [HZ.out]; omega
      have hoiI : (o : Int) ≤ (i : Int) := by omega
      have g1 : decide ((i : Int) < (s.size : Int)) = false := decide_eq_false (by rw [HZ.out]; simp at hl1n; omega)
      have g2 : ¬ i < s.size := by have := HZ.out; simp at hl1n; omega
      have HNI := Lib.hid hNi
      obtain ⟨u, hu, HU⟩ := HL.out.mid o i
      clear hNi
      go_wp2_with fail
      go_quiet (fail)
      go_wp2_with fail
      go_quiet (fail)
      go_wp2_with fail
      go_ret
      have h1 := HNI.out
      refine ⟨u, rfl, ?_, ?_, (HO.out.trans (Oth.nx (((Nx.refl _).dr _).dr _)))⟩
      · unfold Hid
        rw [List.take_drop, show o + N = i by omega]
        exact HU.out
      · rw [show o + N = i by omega]
        exact (HC1.out.drew _).drew _
    | cons c r =>
      obtain ⟨hil, hp, hxc⟩ := HL.out.byteK i c r hl1.out
      have hi8 : (i : Int) ≤ 8000 := by omega
      have g1 : decide ((i : Int) < (s.size : Int)) = true := decide_eq_true (by omega)
      have hsp : spanN isNmS (c :: r) = if isNmS c then spanN isNmS r + 1 else 0 := rfl
      obtain ⟨B, HB⟩ : ∃ B, Hid (isNmS c = B) := ⟨_, rfl⟩
      have hcall : ∀ w, Calls Tryd.prog 34 #[.int .u8 (c.toNat : Int)] w fun e w' => e = .returned (.bool B) ∧ w' = w := by
        intro w; have := kisOfName_any c w; rw [HB.out] at this; exact this
      rw [HB.out] at hsp
      have HSP := Lib.hid hsp
      have hi1 : (i : Int) ≤ (s.size : Int) := by rw [HZ.out]; omega
      have hoiI : (o : Int) ≤ (i : Int) := by omega
      obtain ⟨u, hu, HU⟩ := HL.out.mid o i
      clear hsp
      go_wp2_with fail
      go_quiet (exact Calls.quiet_of_same (hcall _))
      clear g1 hxc hp hcall
      generalize hW : World.drewN wr _ = w1
      have hC1 : CurK w1 b s (i : Int) d dp v sb := by rw [← hW]; exact HC1.out.drew _
      have hO1 : Oth b w w1 := by rw [← hW]; exact HO.out.trans (Oth.nx ((Nx.refl _).dr _))
      clear hW c0 c1 f1
      have c0 : w1.cell? ⟨b, 0, none⟩ = some (.string s) := hC1.cell 0
      have c1 : w1.cell? ⟨b, 1, none⟩ = some (.int .i64 (i : Int)) := hC1.cell 1
      have f1 : w1.frozen? ⟨b, 1, none⟩ = false := hC1.free 1
      have HC2 := Lib.hid hC1
      have HO2 := Lib.hid hO1
      clear hC1 hO1
      cases B
      · go_wp2_with fail
        go_quiet (fail)
        go_wp2_with fail
        go_ret
        have h1 : N + o = i := by have := HS.out; rw [HSP.out] at this; simpa using this
        refine ⟨u, rfl, ?_, ?_, (HO2.out.trans (Oth.nx ((Nx.refl _).dr _)))⟩
        · unfold Hid
          rw [List.take_drop, show o + N = i by omega]
          exact HU.out
        · rw [show o + N = i by omega]
          exact HC2.out.drew _
      · go_wp2_with fail
        go_roundw
        case rel =>
          refine ⟨i + 1, ?_, by omega, by omega, ?_, HO2.out.own⟩
          · exact HC2.out.put1 _
          · unfold Hid
            rw [HS.out, HSP.out, drop_cons hl1.out]
            simp
            omega
        case measure =>
          have h1 : CurK (w1.setCell ⟨b, 1, none⟩ (.int .i64 ((i : Int) + 1))) b s ((i + 1 : Nat) : Int) d dp v sb := HC2.out.put1 _
          rw [h1.at_, HAT.out]
          omega

set_option maxRecDepth 100000 in
set_option maxHeartbeats 1600000 in
theorem take_any (b : Nat) (s : ByteArray) (l : List UInt8) (o : Nat) (d dp : Int) (v : Value) (sb : Nat) (x : UInt8) (w : World) (hC : CurK w b s (o : Int) d dp v sb) (hl : Tx s l) (ho : o ≤ l.length) (hs : (l.length : Int) ≤ 8000) :
    Calls Tryd.prog 40 #[.pointer (some ⟨b, 0, none⟩), .int .u8 (x.toNat : Int)] w fun e w' => e = .returned (.bool (decide ((l.drop o).head? = some x))) ∧
      CurK w' b s ((o + (if (l.drop o).head? = some x then 1 else 0) : Nat) : Int) d dp v sb ∧ Oth b w w' := by
  have HL := Lib.hid hl
  have HC := Lib.hid hC
  have c0 : w.cell? ⟨b, 0, none⟩ = some (.string s) := hC.cell 0
  have c1 : w.cell? ⟨b, 1, none⟩ = some (.int .i64 (o : Int)) := hC.cell 1
  have f1 : w.frozen? ⟨b, 1, none⟩ = false := hC.free 1
  have hz : (s.size : Int) = (l.length : Int) := by rw [hl.size]
  have HZ := Lib.hid hz
  obtain ⟨l1, hl1⟩ : ∃ l1, Hid (l.drop o = l1) := ⟨_, rfl⟩
  have hl1n : l1.length + o = l.length := by rw [← hl1.out]; simp; omega
  rw [hl1.out]
  clear hl hC hz
  cases l1 with
  | nil =>
    have g1 : ((o : Int) == (s.size : Int)) = true := by rw [beq_iff_eq, HZ.out]; simp at hl1n; omega
    go_enter Tryd.func40, Tryd.ntmps40
    go_wp2_with fail
    go_quiet (fail)
    go_wp2_with fail
    go_ret
    exact ⟨rfl, HC.out.drew _, Oth.nx ((Nx.refl _).dr _)⟩
  | cons c r =>
    obtain ⟨hol, hp, hxc⟩ := HL.out.byteK o c r hl1.out
    have g1 : ((o : Int) == (s.size : Int)) = false := by rw [beq_eq_false_iff_ne]; omega
    have g2 : (o : Int) < (s.size : Int) := by omega
    have ho8 : (o : Int) ≤ 8000 := by omega
    by_cases hx : c = x
    · have g3 : ((c.toNat : Int) != (x.toNat : Int)) = false := by subst hx; simp
      have HX := Lib.hid hx
      have e1 : decide ((c :: r).head? = some x) = true := by rw [hx]; simp
      have e2 : (c :: r).head? = some x := by rw [hx]; rfl
      rw [e1, if_pos e2]
      clear hx e1 e2
      go_enter Tryd.func40, Tryd.ntmps40
      go_wp2_with fail
      go_quiet (fail)
      go_wp2_with fail
      go_ret
      exact ⟨rfl, (HC.out.drew _).put1 _, (Oth.nx ((Nx.refl _).dr _)).own⟩
    · have g3 : ((c.toNat : Int) != (x.toNat : Int)) = true := by
        rw [bne_iff_ne]
        intro h
        exact hx (UInt8.toNat_inj.1 (by omega))
      have e1 : decide ((c :: r).head? = some x) = false := decide_eq_false (by simpa using hx)
      have e2 : ¬ (c :: r).head? = some x := by simpa using hx
      rw [e1, if_neg e2]
      clear hx e1 e2
      go_enter Tryd.func40, Tryd.ntmps40
      go_wp2_with fail
      go_quiet (fail)
      go_wp2_with fail
      go_ret
      exact ⟨rfl, HC.out.drew _, Oth.nx ((Nx.refl _).dr _)⟩
end Go.Proofs.YtpaacfoiiihbeaaDoor
