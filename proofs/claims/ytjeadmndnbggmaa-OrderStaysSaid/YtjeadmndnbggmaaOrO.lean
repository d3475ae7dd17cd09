/- The stable sort of up to twenty places; the places below a number, put in order: order.ascending. -/
import Derived.Test.YtjeadmndnbggmaaOrN
set_option linter.unusedVariables false
set_option linter.unusedSimpArgs false
namespace Go.Proofs.Ytjeadmndnbggmaa
open Go.RowKit

def Ent (F : Nat) : Prop := ∀ (us : Array Value) (w : World), (callFunc F us).run Try.prog w = .ok (.enter F us) w
theorem CmpN.mono {F gb gr n : Nat} {v : Nat → Int} {w w1 : World} (h : CmpN F gb gr n v w) (ho : Oth gr w w1) : CmpN F gb gr n v w1 := fun wr hr i j hi hj => h wr (ho.trans hr) i j hi hj
set_option maxRecDepth 100000 in
set_option maxHeartbeats 3200000 in
theorem stn_any (F : Nat) (w : World) (B gr n c gb : Nat) (T : TypeId) (v : Nat → Int) (hn9 : n ≤ 20)
    (hB : Blk w B gr (((List.range n).map nw).toArray) T) (hL : CmpN F gb gr n v w) (hF : Ent F) :
    Calls Try.prog 37 #[.slice (some ⟨gr, 0, none⟩) n c, .int .i64 (n : Int), .func (.func F) #[] #[.pointer (some ⟨gb, 0, none⟩)]] w fun e w' => e = .returned (.tuple #[]) ∧ ∃ o, Ord v n o ∧ Blk w' B gr ((o.map nw).toArray) T ∧ Oth gr w w' := by
  have HI : Hid (Calls Try.prog 39 #[.slice (some ⟨gr, 0, none⟩) n c, .int .i64 0, .int .i64 (n : Int), .func (.func F) #[] #[.pointer (some ⟨gb, 0, none⟩)]] w fun e w' => e = .returned (.tuple #[]) ∧ Hid (∃ o, Ord v n o ∧ Blk w' B gr ((o.map nw).toArray) T ∧ Oth gr w w')) := by
    by_cases h0 : n = 0
    · subst h0
      refine (insn_none w (some ⟨gr, 0, none⟩) 0 c 0 0 _ (by omega) (by omega) (by omega)).mono ?_
      rintro e w' ⟨rfl, hw⟩; obtain rfl := hw.symm
      exact ⟨rfl, [], Ord.nil_ _, hB, Oth.refl _ _⟩
    · exact (insn_any F w B gr n c gb T v (by omega) (by omega) hB hL hF).mono fun e w' h => h
  have hn : (n : Int) ≤ 20 := by omega
  have q0 : decide ((20 : Int) < (n : Int)) = false := decide_eq_false (by omega)
  have q00 : ¬ (20 : Int) < (n : Int) := by omega
  have q01 : ¬ 20 < n := by omega
  have q02 : decide (20 < n) = false := decide_eq_false q01
  have HN := Lib.hid hn9
  clear hB hL hF
  go_enter Try.func37, Try.ntmps37
  go_wp2_with fail
  by_cases h20 : n = 20
  · subst h20
    go_loopw [7, 8] (fun x y wr => (x = .int .i64 0 ∧ y = .int .i64 20 ∧ wr = w) ∨ (x = .int .i64 20 ∧ y = .int .i64 40 ∧ Hid (∃ o, Ord v 20 o ∧ Blk wr B gr ((o.map nw).toArray) T ∧ Oth gr w wr))) (fun x y _ => (100 - intOf x).toNat)
    case atStart => exact .inl ⟨rfl, rfl, rfl⟩
    case round =>
      rcases hrel with ⟨rfl, rfl, rfl⟩ | ⟨rfl, rfl, HO⟩
      · go_wp2_with fail
        refine HI.out.mono ?_; rintro e w' ⟨rfl, HO⟩
        go_wp2_with fail
        go_roundw
        case rel => first | exact .inr ⟨rfl, rfl, HO⟩ | ((repeat apply Exists.intro); exact ⟨.inr ⟨rfl, rfl, HO⟩, rfl⟩)
        case measure => simp [intOf]
      · go_wp2_with fail
        refine (insn_none wr (some ⟨gr, 0, none⟩) 20 c 20 20 _ (by omega) (by omega) (by omega)).mono ?_
        rintro e w' ⟨rfl, hw⟩; obtain rfl := hw.symm
        go_wp2_with fail
        go_loopw [6] (fun x wq => x = .int .i64 20 ∧ wq = wr) (fun x _ => 0)
        case atStart => exact ⟨rfl, rfl⟩
        case round =>
          obtain ⟨rfl, rfl⟩ := hrel
          go_wp2_with fail
          go_end0
          exact ⟨rfl, HO.out⟩
  · have q1 : decide ((20 : Int) ≤ (n : Int)) = false := decide_eq_false (by omega)
    have q2 : ¬ (20 : Int) ≤ (n : Int) := by omega
    have q3 : ¬ 20 ≤ n := by omega
    have q4 : decide (20 ≤ n) = false := decide_eq_false q3
    go_loopw [7, 8] (fun x y wr => x = .int .i64 0 ∧ y = .int .i64 20 ∧ wr = w) (fun x y _ => 0)
    case atStart => exact ⟨rfl, rfl, rfl⟩
    case round =>
      obtain ⟨rfl, rfl, rfl⟩ := hrel
      go_wp2_with fail
      refine HI.out.mono ?_; rintro e w' ⟨rfl, HO⟩
      go_wp2_with fail
      go_loopw [6] (fun x wq => x = .int .i64 20 ∧ wq = w') (fun x _ => 0)
      case atStart => exact ⟨rfl, rfl⟩
      case round =>
        obtain ⟨rfl, rfl⟩ := hrel
        go_wp2_with fail
        go_end0
        exact ⟨rfl, HO.out⟩
theorem ssn_any (F : Nat) (w : World) (B gr n c gb : Nat) (T : TypeId) (v : Nat → Int) (hn9 : n ≤ 20)
    (hB : Blk w B gr (((List.range n).map nw).toArray) T) (hL : CmpN F gb gr n v w) (hF : Ent F) :
    Calls Try.prog 33 #[.slice (some ⟨gr, 0, none⟩) n c, .func (.func F) #[] #[.pointer (some ⟨gb, 0, none⟩)]] w fun e w' => e = .returned (.tuple #[]) ∧ ∃ o, Ord v n o ∧ Blk w' B gr ((o.map nw).toArray) T ∧ Oth gr w w' := by
  have HC := Lib.hid (stn_any F w B gr n c gb T v hn9 hB hL hF)
  clear hB hL hF
  go_enter Try.func33, Try.ntmps33
  go_wp2_with fail
  refine HC.out.mono ?_; rintro e w' ⟨rfl, HO⟩
  have HO := Lib.hid HO
  go_wp2_with fail
  go_end0
  exact ⟨rfl, HO.out⟩
theorem fill_setN (i m : Nat) : ((List.range i ++ List.replicate (m + 1) 0)).set i i = List.range (i + 1) ++ List.replicate m 0 := by
  rw [List.set_append]
  simp [List.range_succ, List.replicate_succ]
section
variable {P : Program} (w : World) {ops : Array Oper} {rest : List Oper} {o : Oper} {a : Act} {Q : Exit → Act → World → Prop}
theorem wpList_mkN (hgd : o.guard = none) (l c : Operand) (hop : o.op = Op.makeSlice 27 l c)
    (kl kc : IntKind) (N : Nat) (hl : a.eval l = .int kl N) (hc : a.eval c = .int kc N) (hm : N ≤ 100000)
    (h : ∀ g w', Hid (Blk w' w.heap.size g (((List.replicate N 0).map nw).toArray) 3) → Hid (Nx w w') → wpList Try.prog ops Q rest (a.put o.dst (.slice (some ⟨g, 0, none⟩) N N)) w') : wpList Try.prog ops Q (o :: rest) a w := by
  obtain ⟨i, hi, hz, h1, h2⟩ := info_parts (show (Try.prog.info? 3).map (fun i => (i.zero, i.size, i.bytes)) = some (some (nw 0), 1, 8) by kernel_rfl)
  refine wpList_plain hgd fun K hK => ?_
  have hrun := run_make (P := Try.prog) w 27 3 i (nw 0) Try.underlying27 hi hz kl kc N N (Int.natCast_nonneg _) (Int.le_refl _) (by rw [h2]; omega) (by omega)
  rw [h1, Nat.mul_one] at hrun
  have hmc : (madeCells (nw 0).cells N).toList = List.replicate N (nw 0) := by
    rw [show (nw 0).cells = #[nw 0] from rfl]
    apply List.ext_getElem
    · simp [madeCells]
    · intro j h1 h2
      simp [madeCells, Nat.mod_one]
  have hma : madeCells (nw 0).cells N = ((List.replicate N 0).map nw).toArray := by
    apply Array.toList_inj.1
    rw [hmc]; simp
  have := hK _ _ (h w.heap.size (w.alloc (.cells (madeCells (nw 0).cells N) 3)) ⟨Nat.le_refl _, by rw [← hma]; exact heap_alloc_new w _⟩ (nx0 w _))
  unfold Oper.wp execOp
  simp only [hop, Sem.run_bind, Sem.run_pure, Result.andThen_ok, hl, hc, hrun]
  exact this
end
set_option maxRecDepth 100000 in
set_option maxHeartbeats 3200000 in
theorem asc_any (F : Nat) (w : World) (n gb : Nat) (v : Nat → Int) (hn9 : n ≤ 20) (hL : ∀ gr, w.heap.size ≤ gr → CmpN F gb gr n v w) (hF : Ent F) :
    Calls Try.prog 26 #[.int .i64 (n : Int), .func (.func F) #[] #[.pointer (some ⟨gb, 0, none⟩)]] w fun e w' => ∃ g o, e = .returned (.slice (some ⟨g, 0, none⟩) n n) ∧ Ord v n o ∧ Blk w' w.heap.size g ((o.map nw).toArray) 3 ∧ Nx w w' := by
  have HL := Lib.hid hL
  have HF := Lib.hid hF
  have hn100 : n ≤ 100000 := by omega
  have hni : (n : Int) ≤ 20 := by omega
  clear hL hF
  go_enter Try.func26, Try.ntmps26
  go_wp2_with (refine wpList_mkN _ rfl _ _ rfl .i64 .i64 n rfl rfl hn100 ?_; intro gr w2 HB2 HX2)
  go_loopw [11] (fun x wr => ∃ i : Nat, x = .int .i64 (i : Int) ∧ i ≤ n ∧ Hid (Blk wr w.heap.size gr (((List.range i ++ List.replicate (n - i) 0).map nw).toArray) 3) ∧ Hid (Oth gr w wr)) (fun x _ => (n - intOf x).toNat)
  case atStart => exact ⟨0, rfl, Nat.zero_le _, by simpa using HB2, Oth.nx HX2.out⟩
  case round =>
    obtain ⟨i, rfl, hi, HK, HT⟩ := hrel
    by_cases hlt : i < n
    · have q1 : decide ((i : Int) < (n : Int)) = true := decide_eq_true (by omega)
      have q2 : (i : Int) < (n : Int) := by omega
      have q3 : (0 : Int) ≤ (i : Int) := by omega
      have q4 : decide (i < n) = true := decide_eq_true hlt
      have hc : ∃ z, wr.cell? ⟨gr, i, none⟩ = some z := ⟨_, (HK.out.cell i).trans (Array.getElem?_eq_getElem (show i < ((List.range i ++ List.replicate (n - i) 0).map nw).toArray.size by simp; omega))⟩
      obtain ⟨z, hz⟩ := hc
      have hf := HK.out.free i
      have HST : Hid (Blk (wr.setCell ⟨gr, i, none⟩ (.int .i64 (i : Int))) w.heap.size gr (((List.range (i + 1) ++ List.replicate (n - (i + 1)) 0).map nw).toArray) 3) := by
        have := HK.out.put i (nw i)
        rw [set_mapN] at this
        obtain ⟨m, hm⟩ : ∃ m, n - i = m + 1 := ⟨n - i - 1, by omega⟩
        rw [hm, fill_setN, show m = n - (i + 1) by omega] at this
        exact this
      have HO2 : Hid (Oth gr w (wr.setCell ⟨gr, i, none⟩ (.int .i64 (i : Int)))) := HT.out.own
      have HLT := Lib.hid hlt
      clear hlt HK HT
      go_wp2_with fail
      go_roundw
      case rel => exact ⟨i + 1, by go_num, HLT.out, HST.out, HO2.out⟩
      case measure => have := HLT.out; simp [intOf]; omega
    · have q1 : decide ((i : Int) < (n : Int)) = false := decide_eq_false (by omega)
      have q2 : ¬ (i : Int) < (n : Int) := by omega
      have q4 : decide (i < n) = false := decide_eq_false hlt
      obtain rfl : i = n := by omega
      have hk := HK.out
      rw [Nat.sub_self, List.replicate_zero, List.append_nil] at hk
      have HS := Lib.hid (ssn_any F wr w.heap.size gr i i gb 3 v hn9 hk ((HL.out gr HB2.out.1).mono HT.out) HF.out)
      clear hlt hk
      go_wp2_with fail
      refine HS.out.mono ?_; rintro e w' ⟨rfl, o, ho, hb, hot⟩
      have HO := Lib.hid ho
      have HBF := Lib.hid hb
      have HN : Hid (Nx w w') := (HT.out.trans hot).to (Nx.refl w) HB2.out.1
      clear ho hb hot
      go_wp2_with fail
      go_ret
      exact ⟨gr, o, rfl, HO.out, HBF.out, HN.out⟩
end Go.Proofs.Ytjeadmndnbggmaa
