/- The contracts of kind's small functions. -/
import Derived.Test.YtpaacfoiiihbeaaDoorProg
import Derived.Test.YtpaacfoiiihbeaaDoorShelf
import Derived.Test.YtpaacfoiiihbeaaDoorKinQ
import Derived.Test.YtpaacfoiiihbeaaDoorRowB
import Derived.Test.YtpaacfoiiihbeaaDoorOth
import Derived.Lib.SmallJoins
import Derived.Laws.Rows
import Derived.Laws.ResultCell
import Derived.IntWalk
set_option linter.unusedVariables false
set_option linter.unusedSimpArgs false
namespace Go.Proofs.YtpaacfoiiihbeaaDoor
open Go.RowKit

set_option maxRecDepth 100000 in
set_option maxHeartbeats 800000 in
theorem kisLetter_any (c : UInt8) (w : World) :
    Calls Tryd.prog 38 #[.int .u8 (c.toNat : Int)] w fun e w' => e = .returned (.bool (isLetS c)) ∧ w' = w := by
  go_enter Tryd.func38, Tryd.ntmps38
  go_wp2_with fail
  all_goals
    go_ret
    refine ⟨congrArg (fun b => Ending.returned (Value.bool b)) ?_, rfl⟩
    rw [Bool.eq_iff_iff]
    simp [isLetS]
    omega

set_option maxRecDepth 100000 in
set_option maxHeartbeats 800000 in
theorem kisDigit_any (c : UInt8) (w : World) :
    Calls Tryd.prog 39 #[.int .u8 (c.toNat : Int)] w fun e w' => e = .returned (.bool (isDig c)) ∧ w' = w := by
  go_enter Tryd.func39, Tryd.ntmps39
  go_wp2_with fail
  all_goals
    go_ret
    refine ⟨congrArg (fun b => Ending.returned (Value.bool b)) ?_, rfl⟩
    rw [Bool.eq_iff_iff]
    simp [isDig]
    omega

set_option maxRecDepth 100000 in
set_option maxHeartbeats 1600000 in
theorem kisOfName_any (c : UInt8) (w : World) :
    Calls Tryd.prog 34 #[.int .u8 (c.toNat : Int)] w fun e w' => e = .returned (.bool (isNmS c)) ∧ w' = w := by
  go_enter Tryd.func34, Tryd.ntmps34
  go_wp2_with fail
  refine (kisLetter_any c w).mono ?_; rintro e w' ⟨rfl, rfl⟩
  obtain ⟨L, HL⟩ : ∃ L, Hid (isLetS c = L) := ⟨_, rfl⟩
  rw [HL.out]
  cases L
  · go_wp2_with fail
    refine (kisDigit_any c _).mono ?_; rintro e w' ⟨rfl, rfl⟩
    obtain ⟨D, HD⟩ : ∃ D, Hid (isDig c = D) := ⟨_, rfl⟩
    rw [HD.out]
    cases D
    · go_wp2_with fail
      all_goals
        go_ret
        refine ⟨congrArg (fun b => Ending.returned (Value.bool b)) ?_, rfl⟩
        rw [Bool.eq_iff_iff]
        simp [isNmS, HL.out, HD.out]
        omega
    · go_wp2_with fail
      go_ret
      refine ⟨congrArg (fun b => Ending.returned (Value.bool b)) ?_, rfl⟩
      simp [isNmS, HL.out, HD.out]
  · go_wp2_with fail
    go_ret
    refine ⟨congrArg (fun b => Ending.returned (Value.bool b)) ?_, rfl⟩
    simp [isNmS, HL.out]

set_option maxRecDepth 100000 in
set_option maxHeartbeats 800000 in
theorem isPart_any (s : ByteArray) (l : List UInt8) (w : World) (hl : Tx s l) :
    Calls Tryd.prog 37 #[.string s] w fun e w' => e = .returned (.bool (isPartS l)) ∧ w' = w := by
  cases l with
  | nil =>
    have e1 := hl.nil.1
    have e2 : s.toList.isEmpty = true := by rw [e1]; rfl
    have HL := Lib.hid hl
    clear hl
    go_enter Tryd.func37, Tryd.ntmps37
    go_wp2_with fail
    go_ret
    exact ⟨rfl, rfl⟩
  | cons c l =>
    obtain ⟨hp, t, e0, e1, ht, e2, e3⟩ := hl.cons
    have HL := Lib.hid hl
    clear hl ht e1
    go_enter Tryd.func37, Tryd.ntmps37
    go_wp2_with fail
    refine (kisDigit_any c w).mono ?_; rintro e w' ⟨rfl, rfl⟩
    go_wp2_with fail
    go_ret
    exact ⟨rfl, rfl⟩

/-- []byte(s) -/
theorem wpList_bytes {P : Program} (w : World) {ops : Array Oper} {rest : List Oper} {o : Oper} {a : Act} {Q : Exit → Act → World → Prop} {src dst e : TypeId} (hgd : o.guard = none) (x : Operand) (ho : o.op = .convert src dst x) (hs : P.underlying src = some .string) (hd : P.underlying dst = some (.slice e)) (he : P.underlying e = some (.int .u8))
    (s : ByteArray) (l : List UInt8) (hl : Tx s l) (hx : a.eval x = .string s)
    (h : ∀ c w', Rd bv w' (some ⟨w.heap.size, 0, none⟩) l → Nx w w' → wpList P ops Q rest (a.put o.dst (.slice (some ⟨w.heap.size, 0, none⟩) l.length c)) w') : wpList P ops Q (o :: rest) a w := by
  refine wpList_plain hgd fun K hK => ?_
  have hrun := Lib.run_convert_string_bytes (P := P) w src dst e s hs hd he
  have hn : Nx w (Lib.bytesWorld w e s) := Joins.below_bytesWorld _ w e s (Nat.le_refl _)
  have hr : Rd bv (Lib.bytesWorld w e s) (some ⟨w.heap.size, 0, none⟩) l := by
    intro h0
    refine ⟨w.heap.size, 0, rfl, by rw [Lib.bytesWorld_size]; omega, fun j hj => ?_⟩
    rw [Nat.zero_add, Lib.bytesWorld_cell w e s j (by rw [hl.size]; exact hj), show s.data.toList = l from hl]
    simp [bv, hj]
  have := hK _ _ (h (grownCap w s.size 0 e) _ hr hn)
  unfold Oper.wp execOp
  simp only [ho, Sem.run_bind, Sem.run_pure, Result.andThen_ok, hx, hrun]
  rw [hl.size] at *
  exact this

set_option maxRecDepth 100000 in
set_option maxHeartbeats 800000 in
theorem fresh_any (s : ByteArray) (w : World) :
    Calls Tryd.prog 20 #[.string s] w fun e w' => e = .returned (.string s) ∧ Nx w w' := by
  obtain ⟨l, hl⟩ : ∃ l, Tx s l := ⟨_, rfl⟩
  have he := Lib.hid hl.eq
  go_enter Tryd.func20, Tryd.ntmps20
  go_wp2_with (first
    | (refine wpList_bytes _ (o := ⟨some 4, _, _, _, _, _⟩) rfl _ rfl Tryd.underlying9 Tryd.underlying37 Tryd.underlying5 s l hl rfl ?_; intro c1 w1 hr1 hw1)
    | (refine wpList_str _ (o := ⟨some 5, _, _, _, _, _⟩) rfl _ rfl Tryd.underlying37 Tryd.underlying5 Tryd.underlying9 _ l _ rfl hr1 ?_; intro t HT ht1 ht2))
  go_ret
  rw [HT.out, ← he.out]
  exact ⟨rfl, hw1⟩

/-- the table of words lies as laid -/
def kwB (k : Nat) : ByteArray := ⟨(wordK k).toArray⟩
def kwV : Array Value := #[.string (kwB 0), .string (kwB 1), .string (kwB 2), .string (kwB 3), .string (kwB 4), .string (kwB 5), .string (kwB 6), .string (kwB 7), .string (kwB 8), .string (kwB 9), .string (kwB 10), .string (kwB 11), .string (kwB 12), .string (kwB 13), .string (kwB 14), .string (kwB 15), .string (kwB 16)]
def TabK (w : World) : Prop := ∃ t fr, w.heap[0]? = some (.cells kwV t fr)
theorem TabK.nx {w w' : World} (h : TabK w) (hn : Nx w w') : TabK w' := by
  obtain ⟨t, fr, h⟩ := h
  refine ⟨t, fr, ?_⟩
  rw [hn.block _ ?_]
  · exact h
  · rcases Nat.lt_or_ge 0 w.heap.size with h1 | h1
    · exact h1
    · rw [Array.getElem?_eq_none h1] at h; cases h
theorem kwV_at (i : Nat) (h : i < 17) : kwV[i]? = some (.string (kwB i)) := by
  have h' : i ∈ List.range 17 := List.mem_range.2 h
  simp only [List.range, List.range.loop, List.mem_cons, List.not_mem_nil, or_false] at h'
  rcases h' with rfl | rfl | rfl | rfl | rfl | rfl | rfl | rfl | rfl | rfl | rfl | rfl | rfl | rfl | rfl | rfl | rfl <;> rfl

/-- an element of an array that is a value -/
theorem wpList_index_arr {P : Program} (w : World) {ops : Array Oper} {rest : List Oper} {o : Oper} {a : Act} {Q : Exit → Act → World → Prop} (hgd : o.guard = none) (t e : TypeId) (n : Nat) (x i : Operand) (ho : o.op = .index t x i)
    (ht : P.underlying t = some (.array n e)) (d : TypeDesc) (he : P.underlying e = some d) (hd : (match d with | .struct _ | .array _ _ => false | _ => true) = true) (hz : (P.info? e).map (·.size) = some 1)
    (cs : Array Value) (hx : a.eval x = .agg cs) (k : Nat) (hi : a.eval i = .int .i64 k) (hk : k < n) (v : Value) (hv : cs[k]? = some v)
    (h : wpList P ops Q rest (a.put o.dst v) w) : wpList P ops Q (o :: rest) a w := by
  refine wpList_plain hgd fun K hK => ?_
  have := hK _ _ h
  have hagg : (isAgg e).run P w = .ok false w := by
    unfold isAgg
    rw [Sem.run_bind, run_underlying he w]
    cases d <;> simp_all
  have hk' : (0 : Int) ≤ (k : Int) ∧ (k : Int) < (n : Int) := by omega
  cases hq : P.info? e with
  | none => rw [hq] at hz; cases hz
  | some inf =>
    have hs : inf.size = 1 := by rw [hq] at hz; simpa using hz
    have hrun : (Instr.index t (.agg cs) (.int .i64 k)).run P w = .ok v w := by
      unfold Instr.index
      simp only [asIntOf, Sem.run_bind, Sem.run_pure, Result.andThen_ok, run_underlying ht]
      rw [if_pos hk']
      simp [Sem.run_bind, sizeOf, typeInfo, hq, hs, part, hagg, hv]
    unfold Oper.wp execOp
    simp only [ho, Sem.run_bind, Sem.run_pure, Result.andThen_ok, hx, hi, hrun]
    exact this

theorem kind_at (l : List UInt8) (k : Nat) (hk : k < 17) (h1 : ∀ j, j < k → wordK j ≠ l) (h2 : wordK k = l) : kindW l = k := by
  subst h2
  have h' : k ∈ List.range 17 := List.mem_range.2 hk
  simp only [List.range, List.range.loop, List.mem_cons, List.not_mem_nil, or_false] at h'
  rcases h' with rfl | rfl | rfl | rfl | rfl | rfl | rfl | rfl | rfl | rfl | rfl | rfl | rfl | rfl | rfl | rfl | rfl <;> first | decide | exact absurd rfl (h1 0 (by decide))
theorem kind_no (l : List UInt8) (h : ∀ j, j < 17 → wordK j ≠ l) : kindW l = 0 := by
  rcases kindW_is l with h0 | ⟨h1, h2⟩
  · exact h0
  · exact absurd h2.symm (h _ (by unfold isKw at h1; omega))

set_option maxRecDepth 100000 in
set_option maxHeartbeats 1600000 in
theorem kindOf_any (s : ByteArray) (l : List UInt8) (w : World) (hl : Tx s l) (ht : TabK w) :
    Calls Tryd.prog 31 #[.string s] w fun e w' => e = .returned (.int .i64 (kindW l : Nat)) ∧ w' = w := by
  have HL := Lib.hid hl
  have HT := Lib.hid ht
  obtain ⟨tt, fr, hg⟩ := ht
  clear hl
  go_enter Tryd.func31, Tryd.ntmps31
  go_wp2_with (refine wpList_load_row rfl _ _ rfl 0 rfl tt kwV fr _ hg Tryd.underlying54 rfl (by kernel_rfl) ?_)
  go_loop [6] (fun i => ∃ k : Nat, k ≤ 17 ∧ i = .int .i64 k ∧ Hid (∀ j, j < k → wordK j ≠ l)) (fun i => 17 - (intOf i).toNat)
  case atStart => exact ⟨0, by decide, rfl, fun j hj => by omega⟩
  case round =>
    obtain ⟨k, hk, rfl, HK⟩ := hrel
    by_cases hlt : k < 17
    · have hkI : (k : Int) < 17 := by omega
      have hkd : decide ((k : Int) < 17) = true := decide_eq_true hkI
      have hat := kwV_at k hlt
      have hbt : ((kwB k).toList == s.toList) = decide (wordK k = l) := by
        rw [HL.out.toL, show (kwB k).toList = wordK k from (Tx.of (wordK k)).toL, Bool.eq_iff_iff]
        simp
      by_cases he : wordK k = l
      · rw [decide_eq_true he] at hbt
        have HR := Lib.hid (kind_at l k hlt HK.out he)
        clear he
        go_wp2_with (refine wpList_index_arr _ (o := ⟨some 9, _, _, _, _, _⟩) rfl _ _ 17 _ _ rfl Tryd.underlying54 _ Tryd.underlying9 rfl (by kernel_rfl) kwV rfl k rfl hlt _ hat ?_)
        go_ret
        rw [HR.out]
        exact ⟨rfl, rfl⟩
      · rw [decide_eq_false he] at hbt
        have HE := Lib.hid he
        clear he
        go_wp2_with (refine wpList_index_arr _ (o := ⟨some 9, _, _, _, _, _⟩) rfl _ _ 17 _ _ rfl Tryd.underlying54 _ Tryd.underlying9 rfl (by kernel_rfl) kwV rfl k rfl hlt _ hat ?_)
        go_round
        case rel => exact ⟨k + 1, by omega, by go_num, fun j hj => by
          rcases Nat.lt_or_ge j k with h | h
          · exact HK.out j h
          · obtain rfl : j = k := by omega
            exact HE.out⟩
        case measure => simp [intOf]; omega
    · obtain rfl : k = 17 := by omega
      have HR := Lib.hid (kind_no l HK.out)
      go_wp2_with fail
      go_ret
      rw [HR.out]
      exact ⟨rfl, rfl⟩

/-- a text cut at its first full stop -/
theorem cut_parts (l : List UInt8) : ∃ A B C, Hid (Lib.cut l [46] = (A, B, C)) ∧ Hid (farF true l = (isPartS A && (!C || farF true B))) ∧ Hid (nameOk l = (farF true l && decide (kindW A = 0))) ∧ A.length ≤ l.length ∧ B.length ≤ l.length ∧ (C = true → B.length < l.length) := by
  refine ⟨l.take (partN l), if partN l < l.length then l.drop (partN l + 1) else [], decide (partN l < l.length), cut_dot l, ?_, rfl, by simp [Nat.min_le_right], ?_, ?_⟩
  · unfold Hid
    rw [farF_true]
    by_cases h : partN l < l.length
    · rw [if_pos h, if_pos h, decide_eq_true h]; rfl
    · rw [if_neg h, if_neg h, decide_eq_false h]; rfl
  · split <;> simp
  · intro h
    have h := of_decide_eq_true h
    rw [if_pos h, List.length_drop]; omega

set_option maxRecDepth 100000 in
set_option maxHeartbeats 1600000 in
theorem isName_any (s : ByteArray) (l : List UInt8) (w : World) (hl : Tx s l) (hs : (l.length : Int) ≤ 100000) (ht : TabK w) (hm : MaxC w) :
    Calls Tryd.prog 33 #[.string s] w fun e w' => e = .returned (.bool (nameOk l)) ∧ ∃ n, w' = w.drewN n := by
  have HL := Lib.hid hl
  have HT := Lib.hid ht
  obtain ⟨m, hm⟩ := hm
  have HM := Lib.hid hm
  have hz : s.size < 4294967281 := by rw [hl.size]; omega
  have HZ := Lib.hid hz
  obtain ⟨A, B, C, HC, HF, HN, hA, hB, hC⟩ := cut_parts l
  have HC' := Lib.hid hC
  clear hl ht hm hz hC
  go_enter Tryd.func33, Tryd.ntmps33
  go_wp2_with fail
  refine (Tryd.strings_Cut s ⟨#[46]⟩ m w HZ.out HM.out).mono ?_; rintro e w1 ⟨rfl, n1, hw1⟩
  subst hw1
  rw [show s.data.toList = l from HL.out, show (ByteArray.mk #[46]).data.toList = [46] from rfl, HC.out]
  dsimp only
  go_wp2_with fail
  refine (kindOf_any ⟨A.toArray⟩ A _ (Tx.of _) (HT.out.nx (Nx.drewN w n1))).mono ?_; rintro e w' ⟨rfl, rfl⟩
  by_cases hk : kindW A = 0
  · have HNO2 : Hid (nameOk l = farF true l) := by unfold Hid; rw [HN.out, decide_eq_true hk, Bool.and_true]
    rw [hk]
    clear hk
    go_wp2_with fail
    go_loopw [3, 4, 5] (fun p r m wr => ∃ (A B : List UInt8) (C : Bool) (n : Nat), p = .string ⟨A.toArray⟩ ∧ r = .string ⟨B.toArray⟩ ∧ m = .bool C ∧ Hid ((isPartS A && (!C || farF true B)) = nameOk l) ∧ B.length ≤ l.length ∧ (C = false ∨ B.length < l.length) ∧ wr = w.drewN n) (fun _ r m _ => match r, m with | .string b, .bool true => b.size + 1 | _, _ => 0)
    case atStart => exact ⟨A, B, C, n1, rfl, rfl, rfl, by unfold Hid; rw [HNO2.out, HF.out], hB, by cases C; exact .inl rfl; exact .inr (HC'.out rfl), rfl⟩
    case round =>
      obtain ⟨A', B', C', n, rfl, rfl, rfl, HX, hB', hC', rfl⟩ := hrel
      go_wp2_with fail
      refine (isPart_any ⟨A'.toArray⟩ A' _ (Tx.of _)).mono ?_; rintro e w' ⟨rfl, rfl⟩
      obtain ⟨P, HP⟩ : ∃ P, Hid (isPartS A' = P) := ⟨_, rfl⟩
      rw [HP.out] at HX ⊢
      cases P
      · go_wp2_with fail
        go_ret
        exact ⟨congrArg (fun b => Ending.returned (Value.bool b)) HX.out, _, rfl⟩
      · cases C'
        · go_wp2_with fail
          go_ret
          exact ⟨congrArg (fun b => Ending.returned (Value.bool b)) HX.out, _, rfl⟩
        · obtain ⟨A2, B2, C2, HC2, HF2, -, hA2, hB2, hC2⟩ := cut_parts B'
          have HC2' := Lib.hid hC2
          clear hC2
          have hz2 : (ByteArray.mk B'.toArray).size < 4294967281 := by rw [(Tx.of B').size]; omega
          have HZ2 := Lib.hid hz2
          clear hz2
          go_wp2_with fail
          refine (Tryd.strings_Cut ⟨B'.toArray⟩ ⟨#[46]⟩ m (w.drewN n) HZ2.out HM.out).mono ?_; rintro e w2 ⟨rfl, n2, hw2⟩
          subst hw2
          rw [show (ByteArray.mk B'.toArray).data.toList = B' from rfl, show (ByteArray.mk #[46]).data.toList = [46] from rfl, HC2.out]
          dsimp only
          go_wp2_with fail
          go_roundw
          case rel =>
            refine ⟨A2, B2, C2, n + n2, rfl, rfl, rfl, ?_, by omega, ?_, rfl⟩
            · unfold Hid
              rw [← HX.out, ← HF2.out]; rfl
            · rcases hC' with h | h
              · cases h
              · exact .inr (by omega)
          case measure =>
            have h1 : (ByteArray.mk B'.toArray).size = B'.length := (Tx.of B').size
            have h2 : (ByteArray.mk B2.toArray).size = B2.length := (Tx.of B2).size
            have h3 := HC2'.out
            cases C2
            · simp
            · have := h3 rfl
              simp only [h1, h2]
              omega
  · have hk2 : ((kindW A : Int) != 0) = true := by rw [bne_iff_ne]; omega
    have HNO2 : Hid (nameOk l = false) := by unfold Hid; rw [HN.out, decide_eq_false hk, Bool.and_false]
    clear hk
    go_wp2_with fail
    go_ret
    rw [HNO2.out]
    exact ⟨rfl, _, rfl⟩
end Go.Proofs.YtpaacfoiiihbeaaDoor
