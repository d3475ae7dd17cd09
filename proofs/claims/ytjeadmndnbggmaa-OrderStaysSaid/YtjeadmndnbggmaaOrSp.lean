/- A map's pairs, in order: order.sortPairs. -/
import Derived.Test.YtjeadmndnbggmaaOrU
import Derived.Test.YtjeadmndnbggmaaRowO
set_option linter.unusedVariables false
set_option linter.unusedSimpArgs false
namespace Go.Proofs.Ytjeadmndnbggmaa
open Go.RowKit

def flatS (acc : List (ValS × ValS)) : List ValS := acc.flatMap fun p => [p.1, p.2]
theorem flatS_len : ∀ acc : List (ValS × ValS), (flatS acc).length = 2 * acc.length
  | [] => rfl
  | p :: r => by
    have := flatS_len r
    show (p.1 :: p.2 :: flatS r).length = _
    simp only [List.length_cons, this]; omega
theorem flatS_app (a b : List (ValS × ValS)) : flatS (a ++ b) = flatS a ++ flatS b := List.flatMap_append
theorem flatS_one (acc : List (ValS × ValS)) (h : ∀ p ∈ acc, OkS p.1 ∧ OkS p.2) : ∀ y ∈ flatS acc, OkS y := fun y hy => by
  obtain ⟨p, hp, hy⟩ := List.mem_flatMap.1 hy
  rcases List.mem_cons.1 hy with rfl | hy
  · exact (h p hp).1
  · rw [List.mem_singleton.1 hy]; exact (h p hp).2
theorem two_new (w : World) (c1 c2 : Array Value) (T : TypeId) : Blk (((w.alloc (.cells c1 T)).alloc (.cells c2 T)).drew) w.heap.size w.heap.size c1 T ∧ Blk (((w.alloc (.cells c1 T)).alloc (.cells c2 T)).drew) w.heap.size (w.heap.size + 1) c2 T ∧ Nx w (((w.alloc (.cells c1 T)).alloc (.cells c2 T)).drew) := by
  have hs : (w.alloc (.cells c1 T)).heap.size = w.heap.size + 1 := Array.size_push _
  refine ⟨((Blk.new w c1 T).alloc _).drew 1, ?_, Nx.dr (nx (nx0 w _) (nx0 _ _)) 1⟩
  have h := Blk.new (w.alloc (.cells c1 T)) c2 T
  rw [hs] at h
  exact (h.less (Nat.le_succ _)).drew 1
theorem sp_le {xs : List ValS} {o : List Nat} {i t m : Nat} {acc : List (ValS × ValS)} {X Y : ValS} (ho : Ord (fun i => ky (xs.getD (2 * i) zeroS)) m o) (ht : o[i]? = some t)
    (hm : ∀ y, y ∈ acc.map lf2 ↔ y ∈ (o.take i).map fun k => lf2 (prS xs k)) (hp : prS xs t = (X, Y)) : ∀ p ∈ acc, ky p.1 ≤ ky X := by
  intro p hpa
  obtain ⟨k, hk, e⟩ := List.mem_map.1 ((hm (lf2 p)).1 (List.mem_map_of_mem hpa))
  obtain ⟨j, hj, rfl⟩ := List.getElem_of_mem hk
  have hji : j < i := by rw [List.length_take] at hj; omega
  have hio : i < o.length := by
    rcases Nat.lt_or_ge i o.length with h | h
    · exact h
    · rw [List.getElem?_eq_none h] at ht; cases ht
  rw [List.getElem?_eq_getElem hio] at ht
  have ht : o[i] = t := by injection ht
  have hl := List.pairwise_iff_getElem.1 ho.2 j i (by omega) hio hji
  rw [ht] at hl
  have e1 : ky (prS xs (o.take i)[j]).1 = ky p.1 := congrArg (fun q : Val × Val => kv q.1) e
  rw [List.getElem_take] at e1
  have e2 : (prS xs t).1 = X := by rw [hp]
  have e3 : ky (xs.getD (2 * t) zeroS) = ky X := by rw [← e2]; rfl
  have e4 : ky (xs.getD (2 * o[j]) zeroS) = ky p.1 := e1
  unfold lx at hl
  simp only at hl
  omega
theorem sp_more {xs : List ValS} {o : List Nat} {i t m : Nat} {acc : List (ValS × ValS)} {X Y : ValS} (ho : Ord (fun i => ky (xs.getD (2 * i) zeroS)) m o) (ht : o[i]? = some t)
    (hu : Up2 (acc.map lf2)) (hm : ∀ y, y ∈ acc.map lf2 ↔ y ∈ (o.take i).map fun k => lf2 (prS xs k)) (hok : ∀ p ∈ acc, OkS p.1 ∧ OkS p.2) (hp : prS xs t = (X, Y)) (hXY : OkS X ∧ OkS Y)
    (hl : ∀ a' K V, acc = a' ++ [(K, V)] → ky K ≠ ky X) :
    Up2 ((acc ++ [(X, Y)]).map lf2) ∧ (∀ y, y ∈ (acc ++ [(X, Y)]).map lf2 ↔ y ∈ (o.take (i + 1)).map fun k => lf2 (prS xs k)) ∧ ∀ p ∈ acc ++ [(X, Y)], OkS p.1 ∧ OkS p.2 := by
  have hio : i < o.length := by
    rcases Nat.lt_or_ge i o.length with h | h
    · exact h
    · rw [List.getElem?_eq_none h] at ht; cases ht
  have hoi : o[i] = t := by rw [List.getElem?_eq_getElem hio] at ht; injection ht
  refine ⟨?_, fun y => ?_, fun p hpp => ?_⟩
  · rw [List.map_append]
    refine List.pairwise_append.2 ⟨hu, List.pairwise_singleton _ _, fun a ha b hb => ?_⟩
    have hb' : b = (lfV X, lfV Y) := by simpa [lf2] using hb
    subst hb'
    obtain ⟨p, hpa, rfl⟩ := List.mem_map.1 ha
    show ky p.1 < ky X
    have h1 := sp_le ho ht hm hp p hpa
    rcases Int.lt_or_eq_of_le h1 with h | h
    · exact h
    · exfalso
      obtain ⟨a', q, e⟩ : ∃ a' q, acc = a' ++ [q] := ⟨acc.dropLast, acc.getLast (List.ne_nil_of_mem hpa), (List.dropLast_concat_getLast _).symm⟩
      have hK := hl a' q.1 q.2 e
      have hq := sp_le ho ht hm hp q (by rw [e]; simp)
      rw [e] at hpa hu
      rcases List.mem_append.1 hpa with hpa | hpa
      · rw [List.map_append] at hu
        have := (List.pairwise_append.1 hu).2.2 (lf2 p) (List.mem_map_of_mem hpa) (lf2 q) (by simp)
        have : ky p.1 < ky q.1 := this
        omega
      · rw [List.mem_singleton.1 hpa] at h; exact hK h
  · rw [List.map_append, List.mem_append, hm, List.take_succ_eq_append_getElem hio, List.map_append, List.mem_append, hoi]
    simp only [List.map_cons, List.map_nil, hp]
  · rcases List.mem_append.1 hpp with h | h
    · exact hok p h
    · rw [List.mem_singleton.1 h]; exact hXY
theorem sp_keep {xs : List ValS} {o : List Nat} {i t : Nat} {acc : List (ValS × ValS)} {X Y K V : ValS} (ht : o[i]? = some t)
    (hm : ∀ y, y ∈ acc.map lf2 ↔ y ∈ (o.take i).map fun k => lf2 (prS xs k)) (hp : prS xs t = (X, Y)) (hXY : OkS X ∧ OkS Y) (hKV : OkS K ∧ OkS V) (hin : (K, V) ∈ acc) (e1 : ky K = ky X) (e2 : ky V = ky Y) :
    ∀ y, y ∈ acc.map lf2 ↔ y ∈ (o.take (i + 1)).map fun k => lf2 (prS xs k) := fun y => by
  have hio : i < o.length := by
    rcases Nat.lt_or_ge i o.length with h | h
    · exact h
    · rw [List.getElem?_eq_none h] at ht; cases ht
  have hoi : o[i] = t := by rw [List.getElem?_eq_getElem hio] at ht; injection ht
  have h1 : lfV X = lfV K := kv_inj hXY.1.leaf hKV.1.leaf e1.symm
  have h2 : lfV Y = lfV V := kv_inj hXY.2.leaf hKV.2.leaf e2.symm
  have h3 : lf2 (X, Y) = lf2 (K, V) := by unfold lf2; simp only; rw [h1, h2]
  rw [List.take_succ_eq_append_getElem hio, List.map_append, List.mem_append, ← hm, hoi]
  constructor
  · exact .inl
  · rintro (h | h)
    · exact h
    · have : y = lf2 (X, Y) := by simpa [hp] using h
      rw [this, h3]; exact List.mem_map_of_mem hin
theorem sp_clash {xs : List ValS} {o : List Nat} {i t m : Nat} {acc : List (ValS × ValS)} {X Y K V : ValS} (ho : Ord (fun i => ky (xs.getD (2 * i) zeroS)) m o) (htm : t < m)
    (hm : ∀ y, y ∈ acc.map lf2 ↔ y ∈ (o.take i).map fun k => lf2 (prS xs k)) (hp : prS xs t = (X, Y)) (hXY : OkS X ∧ OkS Y) (hKV : OkS K ∧ OkS V) (hin : (K, V) ∈ acc) (e1 : ky K = ky X) (e2 : ky V ≠ ky Y) :
    ¬ Cons2 ((prsS xs m).map lf2) := fun hc => by
  have h1 : lfV K = lfV X := kv_inj hKV.1.leaf hXY.1.leaf e1
  obtain ⟨k, hk, e⟩ := List.mem_map.1 ((hm (lf2 (K, V))).1 (List.mem_map_of_mem hin))
  have hkm : k < m := ho.mem.1 (List.mem_of_mem_take hk)
  have a1 : lf2 (K, V) ∈ (prsS xs m).map lf2 := by
    rw [← e]; exact List.mem_map_of_mem (List.mem_map_of_mem (List.mem_range.2 hkm))
  have a2 : lf2 (X, Y) ∈ (prsS xs m).map lf2 := by
    rw [← hp]; exact List.mem_map_of_mem (List.mem_map_of_mem (List.mem_range.2 htm))
  have := hc _ a1 _ a2 h1
  exact e2 (congrArg kv this)
/-- a map's pairs, in order -/
def MapR (xs : List ValS) (m : Nat) (acc : List (ValS × ValS)) : Prop := Up2 (acc.map lf2) ∧ (∀ y, y ∈ acc.map lf2 ↔ y ∈ (prsS xs m).map lf2) ∧ ∀ p ∈ acc, OkS p.1 ∧ OkS p.2
theorem sp_odd (w : World) (A : Option Addr) (n c : Nat) (hn : n ≤ 100) (hn1 : n % 2 = 1) : Calls Try.prog 13 #[.slice A n c] w fun e w' => e = .returned (.tuple #[.slice none 0 0, .int .i64 1]) ∧ Nx w w' := by
  obtain ⟨g1, hg1⟩ : ∃ g, w.heap.size = g := ⟨_, rfl⟩
  obtain ⟨w1, hw1⟩ : ∃ x, w.alloc (.cells #[.slice A n c] 25) = x := ⟨_, rfl⟩
  have hb1 : Blk w1 g1 g1 #[.slice A n c] 25 := by rw [← hw1, ← hg1]; exact Blk.new w _ _
  have HN1 : Hid (Nx w w1) := by rw [← hw1]; exact nx0 _ _
  have a0 : w1.cell? ⟨g1, 0, none⟩ = some (.slice A n c) := hb1.cell 0
  have e1 : (n : Int).tmod 2 = 1 := by rw [Int.tmod_eq_emod_of_nonneg (by omega)]; omega
  clear hb1
  go_enter Try.func13, Try.ntmps13
  go_wp2_with fail
  clear hw1
  go_ret2
  exact ⟨rfl, HN1.out⟩
set_option maxRecDepth 100000 in
set_option maxHeartbeats 12800000 in
theorem sp_any (w : World) (g B n c m : Nat) (xs : List ValS) (hn : xs.length = n) (hm : 2 * m = n) (hn9 : n ≤ 20) (hnc : n ≤ c) (hB : Blk w B g (rowL valA xs).toArray 29) (hok : ∀ x ∈ xs, OkS x) :
    Calls Try.prog 13 #[.slice (some ⟨g, 0, none⟩) n c] w fun e w' =>
      ((e = .returned (.tuple #[.slice none 0 0, .int .i64 8]) ∧ ¬ Cons2 ((prsS xs m).map lf2)) ∨
        ∃ (vv : Value) (acc : List (ValS × ValS)), e = .returned (.tuple #[vv, .int .i64 0]) ∧ OwnS valA 5 29 w' w.heap.size vv (flatS acc) ∧ MapR xs m acc) ∧ Nx w w' := by
  obtain ⟨g1, hg1⟩ : ∃ g, w.heap.size = g := ⟨_, rfl⟩
  obtain ⟨w1, hw1⟩ : ∃ x, w.alloc (.cells #[.slice (some ⟨g, 0, none⟩) n c] 25) = x := ⟨_, rfl⟩
  have hb1 : Blk w1 g1 g1 #[.slice (some ⟨g, 0, none⟩) n c] 25 := by rw [← hw1, ← hg1]; exact Blk.new w _ _
  have hn1 : Nx w w1 := by rw [← hw1]; exact nx0 _ _
  have a0 : w1.cell? ⟨g1, 0, none⟩ = some (.slice (some ⟨g, 0, none⟩) n c) := hb1.cell 0
  have HB1 := Lib.hid hb1
  have HBX := Lib.hid (hB.below hn1)
  have HN1 := Lib.hid hn1
  have HOK := Lib.hid hok
  have HXL := Lib.hid hn
  have HM := Lib.hid hm
  have HAS := Lib.hid (asc_any 25 w1 m g1 (fun i => ky (xs.getD (2 * i) zeroS)) (by omega) (fun gr hgr => keys_any w1 g1 g B n c m xs hn hm (by omega) a0 hb1.lt (hB.below hn1) hok gr hgr) ent_keys)
  have e1 : (n : Int).tmod 2 = 0 := by rw [Int.tmod_eq_emod_of_nonneg (by omega)]; omega
  have e2 : (n : Int).tdiv 2 = (m : Int) := by rw [Int.tdiv_eq_ediv_of_nonneg (by omega)]; omega
  have HG1 : Hid (w.heap.size = g1) := hg1
  have hmi : (m : Int) ≤ 10 := by omega
  have HNC := Lib.hid hnc
  clear hb1 hn1 hB hok hn hm hnc
  go_enter Try.func13, Try.ntmps13
  go_wp2_with fail
  clear hw1 hg1
  refine HAS.out.mono ?_; rintro e w2 ⟨go, o, rfl, ho, hbo, hn2⟩
  have HO := Lib.hid ho
  have HBO := Lib.hid hbo
  have HN2 := Lib.hid (HN1.out.trans hn2)
  have HB12 := Lib.hid (HB1.out.below hn2)
  have HBX2 := Lib.hid (HBX.out.below hn2)
  clear ho hbo hn2 a0 HB1 HBX HN1 HAS e1 e2
  go_wp2_with fail
  go_loopw [21, 2] (fun x21 x2 wr => ∃ (i : Nat) (acc : List (ValS × ValS)) (A : Option Addr) (L cc : Nat), x21 = .int .i64 (i : Int) ∧ x2 = .slice A L cc ∧ i ≤ m ∧ Hid (2 * acc.length = L ∧ acc.length ≤ i) ∧ Hid (OwnS valA 5 29 wr w2.heap.size (.slice A L cc) (flatS acc)) ∧ Hid (Up2 (acc.map lf2) ∧ (∀ y, y ∈ acc.map lf2 ↔ y ∈ (o.take i).map fun k => lf2 (prS xs k)) ∧ ∀ p ∈ acc, OkS p.1 ∧ OkS p.2) ∧ Hid (Nx w2 wr)) (fun x21 _ _ => (m - intOf x21).toNat)
  case atStart => exact ⟨0, [], none, 0, 0, rfl, rfl, Nat.zero_le _, ⟨rfl, Nat.le_refl _⟩, OwnS.nil_ _ _, ⟨List.Pairwise.nil, fun y => by simp, fun p h => by cases h⟩, Nx.refl _⟩
  case round =>
    obtain ⟨i, acc, A, L, cc, rfl, rfl, hi, HAI, HOW, HAC, HX⟩ := hrel
    have hL20 : (L : Int) ≤ 20 := by have := HAI.out; omega
    by_cases hlt : i < m
    · have c1 : decide ((i : Int) < (m : Int)) = true := decide_eq_true (by omega)
      have c2 : (i : Int) < (m : Int) := by omega
      have c3 : (0 : Int) ≤ (i : Int) := by omega
      have c4 : decide (i < m) = true := decide_eq_true hlt
      have hio : i < o.length := by rw [HO.out.len]; exact hlt
      obtain ⟨t, ht⟩ : ∃ t, o[i] = t := ⟨_, rfl⟩
      have htm : t < m := ht ▸ HO.out.get hio
      have hco : wr.cell? ⟨go, i, none⟩ = some (.int .i64 (t : Int)) := by
        rw [(HBO.out.below HX.out).cell i]; simp [nw, hio, ht]
      have hcg : wr.cell? ⟨g1, 0, none⟩ = some (.slice (some ⟨g, 0, none⟩) n c) := (HB12.out.below HX.out).cell 0
      have HBR := Lib.hid (HBX2.out.below HX.out)
      have hx1 : 2 * t < xs.length := by rw [HXL.out]; have := HM.out; omega
      have hx2 : 2 * t + 1 < xs.length := by rw [HXL.out]; have := HM.out; omega
      obtain ⟨X, hX⟩ : ∃ X, xs[2 * t] = X := ⟨_, rfl⟩
      obtain ⟨Y, hY⟩ : ∃ Y, xs[2 * t + 1] = Y := ⟨_, rfl⟩
      have HXY : Hid (OkS X ∧ OkS Y) := ⟨hX ▸ HOK.out _ (List.getElem_mem _), hY ▸ HOK.out _ (List.getElem_mem _)⟩
      have HPR : Hid (prS xs t = (X, Y) ∧ o[i]? = some t) := ⟨by unfold prS; rw [← hX, ← hY]; simp [List.getD, hx1, hx2], by rw [← ht]; simp [hio]⟩
      have HFX : Hid ((∀ q, q < 5 → wr.cell? ⟨g, (2 * t) * 5 + q, none⟩ = (valA X)[q]?) ∧ ∀ q, q < 5 → wr.cell? ⟨g, (2 * t + 1) * 5 + q, none⟩ = (valA Y)[q]?) :=
        ⟨fun q hq => by rw [HBR.out.rcell hx1 hq, hX], fun q hq => by rw [HBR.out.rcell hx2 hq, hY]⟩
      obtain ⟨T2, hT2⟩ : ∃ I, 2 * t = I := ⟨_, rfl⟩
      obtain ⟨T3, hT3⟩ : ∃ I, 2 * t + 1 = I := ⟨_, rfl⟩
      rw [hT3, hT2] at HFX
      have ht2 : (2 : Int) * (t : Int) = (T2 : Int) := by omega
      have ht3 : (T2 : Int) + 1 = (T3 : Int) := by omega
      have ht4 : (T2 : Int) < (n : Int) := by have := HXL.out; omega
      have ht5 : (T3 : Int) < (n : Int) := by have := HXL.out; omega
      have ht6 : (0 : Int) ≤ (T2 : Int) := by omega
      have ht7 : (0 : Int) ≤ (T3 : Int) := by omega
      have hw2 : IntKind.i64.wrap (T2 : Int) = (T2 : Int) := by rw [IntKind.wrap_i64]; omega
      have hw3 : IntKind.i64.wrap (T3 : Int) = (T3 : Int) := by rw [IntKind.wrap_i64]; omega
      have hw4 : wrap64 (T2 : Int) = (T2 : Int) := by simp only [wrap64]; omega
      have hw5 : wrap64 (T3 : Int) = (T3 : Int) := by simp only [wrap64]; omega
      obtain ⟨⟨XA, Xu, Xc, hXl⟩, ⟨XD, Xe, Xf, hXd⟩⟩ := HXY.out.1.slv
      have HVX : Hid (valA X = #[.int .i64 (X.k : Int), .int .i64 X.n, .string ⟨X.s.toArray⟩, .slice XA Xu Xc, .slice XD Xe Xf]) := by unfold Hid valA; rw [hXl, hXd]
      obtain ⟨⟨YA, Yu, Yc, hYl⟩, ⟨YD, Ye, Yf, hYd⟩⟩ := HXY.out.2.slv
      have HVY : Hid (valA Y = #[.int .i64 (Y.k : Int), .int .i64 Y.n, .string ⟨Y.s.toArray⟩, .slice YA Yu Yc, .slice YD Ye Yf]) := by unfold Hid valA; rw [hYl, hYd]
      obtain ⟨Xk, hXk⟩ : ∃ k, (X.k : Int) = k := ⟨_, rfl⟩
      obtain ⟨Xn, hXn⟩ : ∃ k, X.n = k := ⟨_, rfl⟩
      obtain ⟨Xs, hXs⟩ : ∃ s, ByteArray.mk X.s.toArray = s := ⟨_, rfl⟩
      obtain ⟨Yk, hYk⟩ : ∃ k, (Y.k : Int) = k := ⟨_, rfl⟩
      obtain ⟨Yn, hYn⟩ : ∃ k, Y.n = k := ⟨_, rfl⟩
      obtain ⟨Ys, hYs⟩ : ∃ s, ByteArray.mk Y.s.toArray = s := ⟨_, rfl⟩
      rw [hXk, hXn, hXs] at HVX
      rw [hYk, hYn, hYs] at HVY
      rw [HVX.out, HVY.out] at HFX
      have x0 := HFX.out.1 0 (by decide)
      have x1 := HFX.out.1 1 (by decide)
      have x2 := HFX.out.1 2 (by decide)
      have x3 := HFX.out.1 3 (by decide)
      have x4 := HFX.out.1 4 (by decide)
      have y0 := HFX.out.2 0 (by decide)
      have y1 := HFX.out.2 1 (by decide)
      have y2 := HFX.out.2 2 (by decide)
      have y3 := HFX.out.2 3 (by decide)
      have y4 := HFX.out.2 4 (by decide)
      simp only [Nat.add_zero, List.getElem?_toArray, List.getElem?_cons_zero, List.getElem?_cons_succ] at x0 x1 x2 x3 x4 y0 y1 y2 y3 y4
      have hgl : g < wr.heap.size := HBR.out.lt
      have hg1l : g1 < wr.heap.size := (HB12.out.below HX.out).lt
      have x0a : ∀ o, (wr.alloc o).cell? ⟨g, T2 * 5, none⟩ = _ := fun o => ((nx0 wr o).cell (p := ⟨g, T2 * 5, none⟩) hgl).trans x0
      have x0b : ∀ o o', ((wr.alloc o).alloc o').cell? ⟨g, T2 * 5, none⟩ = _ := fun o o' => ((nx (nx0 wr o) (nx0 (wr.alloc o) o')).cell (p := ⟨g, T2 * 5, none⟩) hgl).trans x0
      have x1a : ∀ o, (wr.alloc o).cell? ⟨g, T2 * 5 + 1, none⟩ = _ := fun o => ((nx0 wr o).cell (p := ⟨g, T2 * 5 + 1, none⟩) hgl).trans x1
      have x1b : ∀ o o', ((wr.alloc o).alloc o').cell? ⟨g, T2 * 5 + 1, none⟩ = _ := fun o o' => ((nx (nx0 wr o) (nx0 (wr.alloc o) o')).cell (p := ⟨g, T2 * 5 + 1, none⟩) hgl).trans x1
      have x2a : ∀ o, (wr.alloc o).cell? ⟨g, T2 * 5 + 2, none⟩ = _ := fun o => ((nx0 wr o).cell (p := ⟨g, T2 * 5 + 2, none⟩) hgl).trans x2
      have x2b : ∀ o o', ((wr.alloc o).alloc o').cell? ⟨g, T2 * 5 + 2, none⟩ = _ := fun o o' => ((nx (nx0 wr o) (nx0 (wr.alloc o) o')).cell (p := ⟨g, T2 * 5 + 2, none⟩) hgl).trans x2
      have x3a : ∀ o, (wr.alloc o).cell? ⟨g, T2 * 5 + 3, none⟩ = _ := fun o => ((nx0 wr o).cell (p := ⟨g, T2 * 5 + 3, none⟩) hgl).trans x3
      have x3b : ∀ o o', ((wr.alloc o).alloc o').cell? ⟨g, T2 * 5 + 3, none⟩ = _ := fun o o' => ((nx (nx0 wr o) (nx0 (wr.alloc o) o')).cell (p := ⟨g, T2 * 5 + 3, none⟩) hgl).trans x3
      have x4a : ∀ o, (wr.alloc o).cell? ⟨g, T2 * 5 + 4, none⟩ = _ := fun o => ((nx0 wr o).cell (p := ⟨g, T2 * 5 + 4, none⟩) hgl).trans x4
      have x4b : ∀ o o', ((wr.alloc o).alloc o').cell? ⟨g, T2 * 5 + 4, none⟩ = _ := fun o o' => ((nx (nx0 wr o) (nx0 (wr.alloc o) o')).cell (p := ⟨g, T2 * 5 + 4, none⟩) hgl).trans x4
      have y0a : ∀ o, (wr.alloc o).cell? ⟨g, T3 * 5, none⟩ = _ := fun o => ((nx0 wr o).cell (p := ⟨g, T3 * 5, none⟩) hgl).trans y0
      have y0b : ∀ o o', ((wr.alloc o).alloc o').cell? ⟨g, T3 * 5, none⟩ = _ := fun o o' => ((nx (nx0 wr o) (nx0 (wr.alloc o) o')).cell (p := ⟨g, T3 * 5, none⟩) hgl).trans y0
      have y1a : ∀ o, (wr.alloc o).cell? ⟨g, T3 * 5 + 1, none⟩ = _ := fun o => ((nx0 wr o).cell (p := ⟨g, T3 * 5 + 1, none⟩) hgl).trans y1
      have y1b : ∀ o o', ((wr.alloc o).alloc o').cell? ⟨g, T3 * 5 + 1, none⟩ = _ := fun o o' => ((nx (nx0 wr o) (nx0 (wr.alloc o) o')).cell (p := ⟨g, T3 * 5 + 1, none⟩) hgl).trans y1
      have y2a : ∀ o, (wr.alloc o).cell? ⟨g, T3 * 5 + 2, none⟩ = _ := fun o => ((nx0 wr o).cell (p := ⟨g, T3 * 5 + 2, none⟩) hgl).trans y2
      have y2b : ∀ o o', ((wr.alloc o).alloc o').cell? ⟨g, T3 * 5 + 2, none⟩ = _ := fun o o' => ((nx (nx0 wr o) (nx0 (wr.alloc o) o')).cell (p := ⟨g, T3 * 5 + 2, none⟩) hgl).trans y2
      have y3a : ∀ o, (wr.alloc o).cell? ⟨g, T3 * 5 + 3, none⟩ = _ := fun o => ((nx0 wr o).cell (p := ⟨g, T3 * 5 + 3, none⟩) hgl).trans y3
      have y3b : ∀ o o', ((wr.alloc o).alloc o').cell? ⟨g, T3 * 5 + 3, none⟩ = _ := fun o o' => ((nx (nx0 wr o) (nx0 (wr.alloc o) o')).cell (p := ⟨g, T3 * 5 + 3, none⟩) hgl).trans y3
      have y4a : ∀ o, (wr.alloc o).cell? ⟨g, T3 * 5 + 4, none⟩ = _ := fun o => ((nx0 wr o).cell (p := ⟨g, T3 * 5 + 4, none⟩) hgl).trans y4
      have y4b : ∀ o o', ((wr.alloc o).alloc o').cell? ⟨g, T3 * 5 + 4, none⟩ = _ := fun o o' => ((nx (nx0 wr o) (nx0 (wr.alloc o) o')).cell (p := ⟨g, T3 * 5 + 4, none⟩) hgl).trans y4
      have hcga : ∀ o, (wr.alloc o).cell? ⟨g1, 0, none⟩ = _ := fun o => ((nx0 wr o).cell (p := ⟨g1, 0, none⟩) hg1l).trans hcg
      have hcgb : ∀ o o', ((wr.alloc o).alloc o').cell? ⟨g1, 0, none⟩ = _ := fun o o' => ((nx (nx0 wr o) (nx0 (wr.alloc o) o')).cell (p := ⟨g1, 0, none⟩) hg1l).trans hcg
      have HLT := Lib.hid hlt
      have HTM := Lib.hid htm
      clear hXk hXn hXs hYk hYn hYs hXl hXd hYl hYd hX hY hx1 hx2 hT2 hT3 hlt hio ht htm HFX
      go_upto_region 7 with (fail)
      go_cut [7, 8] (fun v7 v8 wx => ∃ ga gb, v7 = .pointer (some ⟨ga, 0, none⟩) ∧ v8 = .pointer (some ⟨gb, 0, none⟩) ∧ Hid (Blk wx wr.heap.size ga #[.int .i64 Xk, .int .i64 Xn, .string Xs, .slice XA Xu Xc, .slice XD Xe Xf] 29) ∧ Hid (Blk wx wr.heap.size gb #[.int .i64 Yk, .int .i64 Yn, .string Ys, .slice YA Yu Yc, .slice YD Ye Yf] 29) ∧ Hid (Nx wr wx))
      case first =>
        go_region
        all_goals (go_wp2_with fail; go_meet)
        all_goals (first | exact ⟨_, _, rfl, rfl, (two_new wr #[.int .i64 Xk, .int .i64 Xn, .string Xs, .slice XA Xu Xc, .slice XD Xe Xf] #[.int .i64 Yk, .int .i64 Yn, .string Ys, .slice YA Yu Yc, .slice YD Ye Yf] 29).1, (two_new wr #[.int .i64 Xk, .int .i64 Xn, .string Xs, .slice XA Xu Xc, .slice XD Xe Xf] #[.int .i64 Yk, .int .i64 Yn, .string Ys, .slice YA Yu Yc, .slice YD Ye Yf] 29).2.1, (two_new wr #[.int .i64 Xk, .int .i64 Xn, .string Xs, .slice XA Xu Xc, .slice XD Xe Xf] #[.int .i64 Yk, .int .i64 Yn, .string Ys, .slice YA Yu Yc, .slice YD Ye Yf] 29).2.2⟩ | exact ⟨_, _, rfl, rfl, (two_new wr #[.int .i64 Yk, .int .i64 Yn, .string Ys, .slice YA Yu Yc, .slice YD Ye Yf] #[.int .i64 Xk, .int .i64 Xn, .string Xs, .slice XA Xu Xc, .slice XD Xe Xf] 29).2.1, (two_new wr #[.int .i64 Yk, .int .i64 Yn, .string Ys, .slice YA Yu Yc, .slice YD Ye Yf] #[.int .i64 Xk, .int .i64 Xn, .string Xs, .slice XA Xu Xc, .slice XD Xe Xf] 29).1, (two_new wr #[.int .i64 Yk, .int .i64 Yn, .string Ys, .slice YA Yu Yc, .slice YD Ye Yf] #[.int .i64 Xk, .int .i64 Xn, .string Xs, .slice XA Xu Xc, .slice XD Xe Xf] 29).2.2⟩)
      case rest =>
        obtain ⟨ga, gb, rfl, rfl, HKA, HVB, HXW⟩ := hcut
        clear x0 x0a x0b x1 x1a x1b x2 x2a x2b x3 x3a x3b x4 x4a x4b y0 y0a y0b y1 y1a y1b y2 y2a y2b y3 y3a y3b y4 y4a y4b hcg hcga hcgb
        have HOX := Lib.hid (HOW.out.nx HXW.out)
        have HXX := Lib.hid (HX.out.trans HXW.out)
        clear HOW HX hgl hg1l hco
        by_cases hac : acc = []
        · have hL : L = 0 := by have := HAI.out.1; rw [hac] at this; simp at this; omega
          have HMO : Hid (Up2 ((acc ++ [(X, Y)]).map lf2) ∧ (∀ y, y ∈ (acc ++ [(X, Y)]).map lf2 ↔ y ∈ (o.take (i + 1)).map fun k => lf2 (prS xs k)) ∧ ∀ p ∈ acc ++ [(X, Y)], OkS p.1 ∧ OkS p.2) := sp_more HO.out HPR.out.2 HAC.out.1 HAC.out.2.1 HAC.out.2.2 HPR.out.1 HXY.out (fun a' K V e => by rw [hac] at e; cases a' <;> simp at e)
          have q0 : ((L : Int) == 0) = true := by rw [hL]; rfl
          have q1 : (L == 0) = true := by rw [hL]; rfl
          clear hL hac
          go_wp2_with fail
          go_quiet (fail)
          have HKW : Hid (Blk (wc.drewN nq) wr.heap.size ga #[.int .i64 Xk, .int .i64 Xn, .string Xs, .slice XA Xu Xc, .slice XD Xe Xf] 29) := HKA.out.drew nq
          have HVW : Hid (Blk (wc.drewN nq) wr.heap.size gb #[.int .i64 Yk, .int .i64 Yn, .string Ys, .slice YA Yu Yc, .slice YD Ye Yf] 29) := HVB.out.drew nq
          have HOV : Hid (OwnS valA 5 29 (wc.drewN nq) w2.heap.size (.slice A L cc) (flatS acc)) := HOX.out.nx (Nx.drewN wc nq)
          have HXV : Hid (Nx w2 (wc.drewN nq)) := HXX.out.dr nq
          clear HKA HVB HOX HXX HXW HBR q0 q1
          generalize wc.drewN nq = wy at *
          have kb := HKW.out
          have vb := HVW.out
          have k0 : wy.cell? ⟨ga, 0, none⟩ = some (.int .i64 Xk) := kb.cell 0
          have k1 : wy.cell? ⟨ga, 1, none⟩ = some (.int .i64 Xn) := kb.cell 1
          have k2 : wy.cell? ⟨ga, 2, none⟩ = some (.string Xs) := kb.cell 2
          have k3 : wy.cell? ⟨ga, 3, none⟩ = some (.slice XA Xu Xc) := kb.cell 3
          have k4 : wy.cell? ⟨ga, 4, none⟩ = some (.slice XD Xe Xf) := kb.cell 4
          have v0 : wy.cell? ⟨gb, 0, none⟩ = some (.int .i64 Yk) := vb.cell 0
          have v1 : wy.cell? ⟨gb, 1, none⟩ = some (.int .i64 Yn) := vb.cell 1
          have v2 : wy.cell? ⟨gb, 2, none⟩ = some (.string Ys) := vb.cell 2
          have v3 : wy.cell? ⟨gb, 3, none⟩ = some (.slice YA Yu Yc) := vb.cell 3
          have v4 : wy.cell? ⟨gb, 4, none⟩ = some (.slice YD Ye Yf) := vb.cell 4
          clear kb vb
          obtain ⟨g6, hg6⟩ : ∃ g, wy.heap.size = g := ⟨_, rfl⟩
          obtain ⟨w6, hw6⟩ : ∃ y, wy.alloc (.cells #[.int .i64 Xk, .int .i64 Xn, .string Xs, .slice XA Xu Xc, .slice XD Xe Xf, .int .i64 Yk, .int .i64 Yn, .string Ys, .slice YA Yu Yc, .slice YD Ye Yf] 29) = y := ⟨_, rfl⟩
          have hb6 : Blk w6 g6 g6 (rowL valA [X, Y]).toArray 29 := by
            have e : (rowL valA [X, Y]).toArray = #[.int .i64 Xk, .int .i64 Xn, .string Xs, .slice XA Xu Xc, .slice XD Xe Xf, .int .i64 Yk, .int .i64 Yn, .string Ys, .slice YA Yu Yc, .slice YD Ye Yf] := by simp [rowL, HVX.out, HVY.out]
            rw [e, ← hw6, ← hg6]; exact Blk.new wy _ _
          have hn6 : Nx wy w6 := by rw [← hw6]; exact nx0 _ _
          have HO6 := Lib.hid (HOV.out.nx hn6)
          have HX6 := Lib.hid (HXV.out.trans hn6)
          have HY6 : Hid (∀ j (h : j < [X, Y].length) p, p < 5 → w6.cell? ⟨g6, 0 + j * 5 + p, none⟩ = (valA [X, Y][j])[p]?) := by
            obtain ⟨g', off', e, h1, h2⟩ := RdO.blk' hb6 (by simp)
            simp only [Option.some.injEq, Addr.mk.injEq] at e
            obtain ⟨rfl, rfl, -⟩ := e
            exact h2
          have HL6 : Hid (((flatS acc).length : Int) + ([X, Y].length : Int) ≤ 100000) := by
            unfold Hid; rw [flatS_len, HAI.out.1]; simp only [List.length_cons, List.length_nil]; omega
          have HQ6 : Hid (w2.heap.size ≤ w6.heap.size) := HX6.out.size
          have HON : Hid (∀ y ∈ [X, Y], ∀ u ∈ (valA y).toList, u.oneCell' = true) := fun y hy => by
            rcases List.mem_cons.1 hy with rfl | hy
            · exact HXY.out.1.one
            · rw [List.mem_singleton.1 hy]; exact HXY.out.2.one
          clear hb6 hn6
          go_wp2_with (at_builtin; go_must (refine wpList_appO (f := valA) (k := 5) (z := valG) _ infoG Try.underlying25 rfl (by decide) (by decide) (fun _ => rfl) rfl _ _ rfl w2.heap.size (.slice A L cc) (flatS acc) [X, Y] HON.out rfl HO6.out g6 0 2 2 rfl rfl HY6.out HL6.out HQ6.out ?_; intro v7 w7 hown7 hbel7 hkeep7))
          have HX7 : Hid (Nx w2 w7) := Below.trans (B := w2.heap.size) HX6.out hbel7
          have hown7' : OwnS valA 5 29 w7 w2.heap.size v7 (flatS (acc ++ [(X, Y)])) := by rw [flatS_app]; exact hown7
          obtain ⟨A7, c7, hv7, -, -, -⟩ := OwnS.sl valA_size hown7'
          obtain ⟨L7, hL7⟩ : ∃ L7, (flatS (acc ++ [(X, Y)])).length = L7 := ⟨_, rfl⟩
          rw [hL7] at hv7
          subst hv7
          have HO7 := Lib.hid hown7'
          have HL7 : Hid (2 * (acc ++ [(X, Y)]).length = L7) := by unfold Hid; rw [← flatS_len, hL7]
          clear hown7 hown7' hbel7 hkeep7 hw6 hg6 hL7 k0 k1 k2 k3 k4 v0 v1 v2 v3 v4
          go_wp2_with fail
          go_roundw
          case rel => exact ⟨i + 1, acc ++ [(X, Y)], A7, L7, c7, by go_num, rfl, HLT.out, ⟨HL7.out, by rw [List.length_append]; have := HAI.out.2; simp only [List.length_cons, List.length_nil]; omega⟩, HO7.out, HMO.out, HX7.out⟩
          case measure => have := HLT.out; simp [intOf]; omega
        · obtain ⟨a', ⟨K, V⟩, rfl⟩ : ∃ a' q, acc = a' ++ [q] := ⟨acc.dropLast, acc.getLast hac, (List.dropLast_concat_getLast _).symm⟩
          clear hac
          have hKV := HAC.out.2.2 (K, V) (by simp)
          have HKV : Hid (OkS K ∧ OkS V) := hKV
          obtain ⟨acc, hacc⟩ : ∃ acc : List (ValS × ValS), a' ++ [(K, V)] = acc := ⟨_, rfl⟩
          have HACC := Lib.hid hacc
          have hfl : ∀ (h1 : L - 2 < (flatS acc).length) (h2 : L - 1 < (flatS acc).length), (flatS acc)[L - 2] = K ∧ (flatS acc)[L - 1] = V := by
            have e : flatS acc = flatS a' ++ [K, V] := by rw [← hacc, flatS_app]; rfl
            have el : L = (flatS a').length + 2 := by
              rw [flatS_len, ← HAI.out.1]; simp; omega
            intro h1 h2
            have e1 : (flatS acc)[L - 2]? = some K := by rw [e, el]; simp
            have e2 : (flatS acc)[L - 1]? = some V := by rw [e, el, show (flatS a').length + 2 - 1 = (flatS a').length + 1 by omega, List.getElem?_append_right (by omega)]; simp
            rw [List.getElem?_eq_getElem h1] at e1
            rw [List.getElem?_eq_getElem h2] at e2
            exact ⟨by injection e1, by injection e2⟩
          have hL2 : 2 ≤ L := by rw [← HAI.out.1]; simp; omega
          rw [hacc] at HAI HOX HAC
          have hflen : (flatS acc).length = L := by rw [flatS_len, HAI.out.1]
          obtain ⟨L2, hL2'⟩ : ∃ L2, L - 2 = L2 := ⟨_, rfl⟩
          obtain ⟨L1, hL1'⟩ : ∃ L1, L - 1 = L1 := ⟨_, rfl⟩
          have hF := hfl (by omega) (by omega)
          simp only [hL2', hL1'] at hF
          obtain ⟨gs, rfl, HRD⟩ : ∃ gs, A = some ⟨gs, 0, none⟩ ∧ Hid (∀ wz, Nx wc wz → (∀ q, q < 5 → wz.cell? ⟨gs, L2 * 5 + q, none⟩ = (valA K)[q]?) ∧ ∀ q, q < 5 → wz.cell? ⟨gs, L1 * 5 + q, none⟩ = (valA V)[q]?) := by
            obtain ⟨A', c', e, h1, h2, h3⟩ := OwnS.sl valA_size HOX.out
            simp only [Value.slice.injEq] at e
            obtain ⟨rfl, -, rfl⟩ := e
            obtain ⟨gs, rfl, hg, hc⟩ := h3 (by omega)
            refine ⟨gs, rfl, fun wz hz => ⟨fun q hq => ?_, fun q hq => ?_⟩⟩
            · rw [hz.cell (p := ⟨gs, L2 * 5 + q, none⟩) hg, hc L2 (by omega) q hq, hF.1]
            · rw [hz.cell (p := ⟨gs, L1 * 5 + q, none⟩) hg, hc L1 (by omega) q hq, hF.2]
          have l1 : (L : Int) - 2 = (L2 : Int) := by omega
          have l2 : (L : Int) - 1 = (L1 : Int) := by omega
          have l3 : (L2 : Int) < (L : Int) := by omega
          have l4 : (L1 : Int) < (L : Int) := by omega
          have l5 : (0 : Int) ≤ (L2 : Int) := by omega
          have l6 : (0 : Int) ≤ (L1 : Int) := by omega
          have l7 : IntKind.i64.wrap (L2 : Int) = (L2 : Int) := by rw [IntKind.wrap_i64]; omega
          have l8 : IntKind.i64.wrap (L1 : Int) = (L1 : Int) := by rw [IntKind.wrap_i64]; omega
          have q0 : ((L : Int) == 0) = false := by rw [beq_eq_false_iff_ne]; omega
          have q1 : (L == 0) = false := by rw [beq_eq_false_iff_ne]; omega
          clear hfl hL2 hflen hL2' hL1' hF hKV hacc
          obtain ⟨⟨KA, Ku, Kc, hKl⟩, ⟨KD, Ke, Kf, hKd⟩⟩ := HKV.out.1.slv
          have HVK : Hid (valA K = #[.int .i64 (K.k : Int), .int .i64 K.n, .string ⟨K.s.toArray⟩, .slice KA Ku Kc, .slice KD Ke Kf]) := by unfold Hid valA; rw [hKl, hKd]
          rw [HVK.out] at HRD
          obtain ⟨Kk, hKk⟩ : ∃ k, (K.k : Int) = k := ⟨_, rfl⟩
          obtain ⟨Kn, hKn⟩ : ∃ k, K.n = k := ⟨_, rfl⟩
          obtain ⟨Ks, hKs⟩ : ∃ s, ByteArray.mk K.s.toArray = s := ⟨_, rfl⟩
          rw [hKk, hKn, hKs] at HVK HRD
          clear hKk hKn hKs hKl hKd
          obtain ⟨⟨VA, Vu, Vc, hVl⟩, ⟨VD, Ve, Vf, hVd⟩⟩ := HKV.out.2.slv
          have HVV : Hid (valA V = #[.int .i64 (V.k : Int), .int .i64 V.n, .string ⟨V.s.toArray⟩, .slice VA Vu Vc, .slice VD Ve Vf]) := by unfold Hid valA; rw [hVl, hVd]
          rw [HVV.out] at HRD
          obtain ⟨Vk, hVk⟩ : ∃ k, (V.k : Int) = k := ⟨_, rfl⟩
          obtain ⟨Vn, hVn⟩ : ∃ k, V.n = k := ⟨_, rfl⟩
          obtain ⟨Vs, hVs⟩ : ∃ s, ByteArray.mk V.s.toArray = s := ⟨_, rfl⟩
          rw [hVk, hVn, hVs] at HVV HRD
          clear hVk hVn hVs hVl hVd
          have HCK : Hid (∀ wx, Calls Try.prog 8 #[.agg #[.int .i64 Kk, .int .i64 Kn, .string Ks, .slice KA Ku Kc, .slice KD Ke Kf], .agg #[.int .i64 Xk, .int .i64 Xn, .string Xs, .slice XA Xu Xc, .slice XD Xe Xf]] wx fun e w' => e = .returned (.int .i64 (cmpI (ky K) (ky X))) ∧ Nx wx w') := by
            have h := fun wx => leaf_cmp_any HKV.out.1 HXY.out.1 wx
            rw [HVK.out, HVX.out] at h; exact h
          have HCV : Hid (∀ wx, Calls Try.prog 8 #[.agg #[.int .i64 Vk, .int .i64 Vn, .string Vs, .slice VA Vu Vc, .slice VD Ve Vf], .agg #[.int .i64 Yk, .int .i64 Yn, .string Ys, .slice YA Yu Yc, .slice YD Ye Yf]] wx fun e w' => e = .returned (.int .i64 (cmpI (ky V) (ky Y))) ∧ Nx wx w') := by
            have h := fun wx => leaf_cmp_any HKV.out.2 HXY.out.2 wx
            rw [HVV.out, HVY.out] at h; exact h
          have Lk0 : ∀ x : Gr wc, x.1.cell? ⟨gs, L2 * 5, none⟩ = some (.int .i64 Kk) := fun x => (HRD.out x.1 x.2).1 0 (by decide)
          have Lk1 : ∀ x : Gr wc, x.1.cell? ⟨gs, L2 * 5 + 1, none⟩ = some (.int .i64 Kn) := fun x => (HRD.out x.1 x.2).1 1 (by decide)
          have Lk2 : ∀ x : Gr wc, x.1.cell? ⟨gs, L2 * 5 + 2, none⟩ = some (.string Ks) := fun x => (HRD.out x.1 x.2).1 2 (by decide)
          have Lk3 : ∀ x : Gr wc, x.1.cell? ⟨gs, L2 * 5 + 3, none⟩ = some (.slice KA Ku Kc) := fun x => (HRD.out x.1 x.2).1 3 (by decide)
          have Lk4 : ∀ x : Gr wc, x.1.cell? ⟨gs, L2 * 5 + 4, none⟩ = some (.slice KD Ke Kf) := fun x => (HRD.out x.1 x.2).1 4 (by decide)
          have Lx0 : ∀ x : Gr wc, x.1.cell? ⟨ga, 0, none⟩ = some (.int .i64 Xk) := fun x => (HKA.out.below x.2).cell 0
          have Lx1 : ∀ x : Gr wc, x.1.cell? ⟨ga, 1, none⟩ = some (.int .i64 Xn) := fun x => (HKA.out.below x.2).cell 1
          have Lx2 : ∀ x : Gr wc, x.1.cell? ⟨ga, 2, none⟩ = some (.string Xs) := fun x => (HKA.out.below x.2).cell 2
          have Lx3 : ∀ x : Gr wc, x.1.cell? ⟨ga, 3, none⟩ = some (.slice XA Xu Xc) := fun x => (HKA.out.below x.2).cell 3
          have Lx4 : ∀ x : Gr wc, x.1.cell? ⟨ga, 4, none⟩ = some (.slice XD Xe Xf) := fun x => (HKA.out.below x.2).cell 4
          go_upto_region 9 with (fail)
          refine wp_region_hyb [(0, true), (1, true), (2, true), (3, true), (4, true), (5, true), (6, true), (7, true), (8, true), (9, false), (10, true), (11, true)] (by kernel_rfl) (by kernel_rfl) ?_
          iterate 9 (refine hyb_calm rfl (fun K hK => ?_); go_simp; refine hK _ ?_; clear hK K)
          clear Lk0 Lk1 Lk2 Lk3 Lk4 Lx0 Lx1 Lx2 Lx3 Lx4
          refine hyb_alone rfl (fun w3 hn3 K hK => ?_)
          go_simp
          refine (HCK.out w3).mono ?_; rintro e w4 ⟨rfl, hn4⟩
          refine hK _ _ hn4 ?_
          clear hK K
          by_cases hk : ky K = ky X
          · have hcz : cmpI (ky K) (ky X) = 0 := cmpI_eq.2 hk
            rw [hcz]
            have HKE := Lib.hid hk
            clear hcz hk
            iterate 2 (refine hyb_calm rfl (fun K hK => ?_); go_simp; refine hK _ ?_; clear hK K)
            refine hyb_nil (fun w5 hn5 => ?_)
            have HN5 := Lib.hid (hn3.trans (hn4.trans hn5))
            have HXV := Lib.hid (HXX.out.trans HN5.out)
            have HOV := Lib.hid (HOX.out.nx HN5.out)
            have HVW := Lib.hid (HVB.out.below HN5.out)
            have Lv0 : ∀ x : Gr w5, x.1.cell? ⟨gs, L1 * 5, none⟩ = some (.int .i64 Vk) := fun x => (HRD.out x.1 (HN5.out.trans x.2)).2 0 (by decide)
            have Lv1 : ∀ x : Gr w5, x.1.cell? ⟨gs, L1 * 5 + 1, none⟩ = some (.int .i64 Vn) := fun x => (HRD.out x.1 (HN5.out.trans x.2)).2 1 (by decide)
            have Lv2 : ∀ x : Gr w5, x.1.cell? ⟨gs, L1 * 5 + 2, none⟩ = some (.string Vs) := fun x => (HRD.out x.1 (HN5.out.trans x.2)).2 2 (by decide)
            have Lv3 : ∀ x : Gr w5, x.1.cell? ⟨gs, L1 * 5 + 3, none⟩ = some (.slice VA Vu Vc) := fun x => (HRD.out x.1 (HN5.out.trans x.2)).2 3 (by decide)
            have Lv4 : ∀ x : Gr w5, x.1.cell? ⟨gs, L1 * 5 + 4, none⟩ = some (.slice VD Ve Vf) := fun x => (HRD.out x.1 (HN5.out.trans x.2)).2 4 (by decide)
            have Ly0 : ∀ x : Gr w5, x.1.cell? ⟨gb, 0, none⟩ = some (.int .i64 Yk) := fun x => (HVW.out.below x.2).cell 0
            have Ly1 : ∀ x : Gr w5, x.1.cell? ⟨gb, 1, none⟩ = some (.int .i64 Yn) := fun x => (HVW.out.below x.2).cell 1
            have Ly2 : ∀ x : Gr w5, x.1.cell? ⟨gb, 2, none⟩ = some (.string Ys) := fun x => (HVW.out.below x.2).cell 2
            have Ly3 : ∀ x : Gr w5, x.1.cell? ⟨gb, 3, none⟩ = some (.slice YA Yu Yc) := fun x => (HVW.out.below x.2).cell 3
            have Ly4 : ∀ x : Gr w5, x.1.cell? ⟨gb, 4, none⟩ = some (.slice YD Ye Yf) := fun x => (HVW.out.below x.2).cell 4
            clear hn3 hn4 hn5 HCK HXX HOX
            go_upto_region 11 with (fail)
            refine wp_region_hyb [(0, true), (1, true), (2, true), (3, true), (4, true), (5, true), (6, false), (7, true)] (by kernel_rfl) (by kernel_rfl) ?_
            iterate 6 (refine hyb_calm rfl (fun K hK => ?_); go_simp; refine hK _ ?_; clear hK K)
            clear Lv0 Lv1 Lv2 Lv3 Lv4 Ly0 Ly1 Ly2 Ly3 Ly4
            refine hyb_alone rfl (fun w6 hn6 K hK => ?_)
            go_simp
            refine (HCV.out w6).mono ?_; rintro e w7 ⟨rfl, hn7⟩
            refine hK _ _ hn7 ?_
            clear hK K
            by_cases hvv : ky V = ky Y
            · have hcz : cmpI (ky V) (ky Y) = 0 := cmpI_eq.2 hvv
              rw [hcz]
              have HKP : Hid (∀ y, y ∈ acc.map lf2 ↔ y ∈ (o.take (i + 1)).map fun k => lf2 (prS xs k)) := sp_keep HPR.out.2 HAC.out.2.1 HPR.out.1 HXY.out HKV.out (by rw [← HACC.out]; simp) HKE.out hvv
              clear hcz hvv
              refine hyb_calm rfl (fun K hK => ?_); go_simp; refine hK _ ?_; clear hK K
              refine hyb_nil (fun w8 hn8 => ?_)
              have HN8 := Lib.hid (hn6.trans (hn7.trans hn8))
              have HX8 := Lib.hid (HXV.out.trans HN8.out)
              have HO8 := Lib.hid (HOV.out.nx HN8.out)
              clear hn6 hn7 hn8
              go_wp2_with fail
              go_roundw
              case rel => exact ⟨i + 1, acc, some ⟨gs, 0, none⟩, L, cc, by go_num, rfl, HLT.out, ⟨HAI.out.1, Nat.le_succ_of_le HAI.out.2⟩, HO8.out, ⟨HAC.out.1, HKP.out, HAC.out.2.2⟩, HX8.out⟩
              case measure => have := HLT.out; simp [intOf]; omega
            · have hcz : (cmpI (ky V) (ky Y) == 0) = false := by rw [beq_eq_false_iff_ne]; exact fun h => hvv (cmpI_eq.1 h)
              have HCL : Hid (¬ Cons2 ((prsS xs m).map lf2)) := sp_clash HO.out HTM.out HAC.out.2.1 HPR.out.1 HXY.out HKV.out (by rw [← HACC.out]; simp) HKE.out hvv
              obtain ⟨CZ, hCZ⟩ : ∃ z, cmpI (ky V) (ky Y) = z := ⟨_, rfl⟩
              rw [hCZ] at hcz ⊢
              clear hvv hCZ
              refine hyb_calm rfl (fun K hK => ?_); go_simp; refine hK _ ?_; clear hK K
              refine hyb_nil (fun w8 hn8 => ?_)
              have HN8 := Lib.hid (HN2.out.trans (HXV.out.trans (hn6.trans (hn7.trans hn8))))
              clear hn6 hn7 hn8
              go_wp2_with fail
              go_ret2
              exact ⟨.inl ⟨rfl, HCL.out⟩, HN8.out⟩
          · have hcz : (cmpI (ky K) (ky X) == 0) = false := by rw [beq_eq_false_iff_ne]; exact fun h => hk (cmpI_eq.1 h)
            have HMO : Hid (Up2 ((acc ++ [(X, Y)]).map lf2) ∧ (∀ y, y ∈ (acc ++ [(X, Y)]).map lf2 ↔ y ∈ (o.take (i + 1)).map fun k => lf2 (prS xs k)) ∧ ∀ p ∈ acc ++ [(X, Y)], OkS p.1 ∧ OkS p.2) := sp_more HO.out HPR.out.2 HAC.out.1 HAC.out.2.1 HAC.out.2.2 HPR.out.1 HXY.out (fun a'' K' V' e => by
              rw [← HACC.out] at e
              have := (List.append_inj' e rfl).2
              simp only [List.cons.injEq, Prod.mk.injEq, and_true] at this
              rw [← this.1]; exact hk)
            obtain ⟨CZ, hCZ⟩ : ∃ z, cmpI (ky K) (ky X) = z := ⟨_, rfl⟩
            rw [hCZ] at hcz ⊢
            clear hk hCZ
            iterate 2 (refine hyb_calm rfl (fun K hK => ?_); go_simp; refine hK _ ?_; clear hK K)
            refine hyb_nil (fun wy hny => ?_)
            have HNY := Lib.hid (hn3.trans (hn4.trans hny))
            have HXV := Lib.hid (HXX.out.trans HNY.out)
            have HOV := Lib.hid (HOX.out.nx HNY.out)
            have HKW := Lib.hid (HKA.out.below HNY.out)
            have HVW := Lib.hid (HVB.out.below HNY.out)
            clear hn3 hn4 hny HCK HCV HXX HOX HRD l1 l2 l3 l4 l5 l6 l7 l8 q0 q1
            obtain ⟨A, hA⟩ : ∃ A : Option Addr, some ⟨gs, 0, none⟩ = A := ⟨_, rfl⟩
            rw [hA] at HOV
            have hcn : (CZ != 0) = true := by rw [bne, hcz]; rfl
            simp only [hA, hcn]
            clear hA hcn hcz
            have kb := HKW.out
            have vb := HVW.out
            have k0 : wy.cell? ⟨ga, 0, none⟩ = some (.int .i64 Xk) := kb.cell 0
            have k1 : wy.cell? ⟨ga, 1, none⟩ = some (.int .i64 Xn) := kb.cell 1
            have k2 : wy.cell? ⟨ga, 2, none⟩ = some (.string Xs) := kb.cell 2
            have k3 : wy.cell? ⟨ga, 3, none⟩ = some (.slice XA Xu Xc) := kb.cell 3
            have k4 : wy.cell? ⟨ga, 4, none⟩ = some (.slice XD Xe Xf) := kb.cell 4
            have v0 : wy.cell? ⟨gb, 0, none⟩ = some (.int .i64 Yk) := vb.cell 0
            have v1 : wy.cell? ⟨gb, 1, none⟩ = some (.int .i64 Yn) := vb.cell 1
            have v2 : wy.cell? ⟨gb, 2, none⟩ = some (.string Ys) := vb.cell 2
            have v3 : wy.cell? ⟨gb, 3, none⟩ = some (.slice YA Yu Yc) := vb.cell 3
            have v4 : wy.cell? ⟨gb, 4, none⟩ = some (.slice YD Ye Yf) := vb.cell 4
            clear kb vb
            obtain ⟨g6, hg6⟩ : ∃ g, wy.heap.size = g := ⟨_, rfl⟩
            obtain ⟨w6, hw6⟩ : ∃ y, wy.alloc (.cells #[.int .i64 Xk, .int .i64 Xn, .string Xs, .slice XA Xu Xc, .slice XD Xe Xf, .int .i64 Yk, .int .i64 Yn, .string Ys, .slice YA Yu Yc, .slice YD Ye Yf] 29) = y := ⟨_, rfl⟩
            have hb6 : Blk w6 g6 g6 (rowL valA [X, Y]).toArray 29 := by
              have e : (rowL valA [X, Y]).toArray = #[.int .i64 Xk, .int .i64 Xn, .string Xs, .slice XA Xu Xc, .slice XD Xe Xf, .int .i64 Yk, .int .i64 Yn, .string Ys, .slice YA Yu Yc, .slice YD Ye Yf] := by simp [rowL, HVX.out, HVY.out]
              rw [e, ← hw6, ← hg6]; exact Blk.new wy _ _
            have hn6 : Nx wy w6 := by rw [← hw6]; exact nx0 _ _
            have HO6 := Lib.hid (HOV.out.nx hn6)
            have HX6 := Lib.hid (HXV.out.trans hn6)
            have HY6 : Hid (∀ j (h : j < [X, Y].length) p, p < 5 → w6.cell? ⟨g6, 0 + j * 5 + p, none⟩ = (valA [X, Y][j])[p]?) := by
              obtain ⟨g', off', e, h1, h2⟩ := RdO.blk' hb6 (by simp)
              simp only [Option.some.injEq, Addr.mk.injEq] at e
              obtain ⟨rfl, rfl, -⟩ := e
              exact h2
            have HL6 : Hid (((flatS acc).length : Int) + ([X, Y].length : Int) ≤ 100000) := by
              unfold Hid; rw [flatS_len, HAI.out.1]; simp only [List.length_cons, List.length_nil]; omega
            have HQ6 : Hid (w2.heap.size ≤ w6.heap.size) := HX6.out.size
            have HON : Hid (∀ y ∈ [X, Y], ∀ u ∈ (valA y).toList, u.oneCell' = true) := fun y hy => by
              rcases List.mem_cons.1 hy with rfl | hy
              · exact HXY.out.1.one
              · rw [List.mem_singleton.1 hy]; exact HXY.out.2.one
            clear hb6 hn6
            go_wp2_with (at_builtin; go_must (refine wpList_appO (f := valA) (k := 5) (z := valG) _ infoG Try.underlying25 rfl (by decide) (by decide) (fun _ => rfl) rfl _ _ rfl w2.heap.size (.slice A L cc) (flatS acc) [X, Y] HON.out rfl HO6.out g6 0 2 2 rfl rfl HY6.out HL6.out HQ6.out ?_; intro v7 w7 hown7 hbel7 hkeep7))
            have HX7 : Hid (Nx w2 w7) := Below.trans (B := w2.heap.size) HX6.out hbel7
            have hown7' : OwnS valA 5 29 w7 w2.heap.size v7 (flatS (acc ++ [(X, Y)])) := by rw [flatS_app]; exact hown7
            obtain ⟨A7, c7, hv7, -, -, -⟩ := OwnS.sl valA_size hown7'
            obtain ⟨L7, hL7⟩ : ∃ L7, (flatS (acc ++ [(X, Y)])).length = L7 := ⟨_, rfl⟩
            rw [hL7] at hv7
            subst hv7
            have HO7 := Lib.hid hown7'
            have HL7 : Hid (2 * (acc ++ [(X, Y)]).length = L7) := by unfold Hid; rw [← flatS_len, hL7]
            clear hown7 hown7' hbel7 hkeep7 hw6 hg6 hL7 k0 k1 k2 k3 k4 v0 v1 v2 v3 v4
            go_wp2_with fail
            go_roundw
            case rel => exact ⟨i + 1, acc ++ [(X, Y)], A7, L7, c7, by go_num, rfl, HLT.out, ⟨HL7.out, by rw [List.length_append]; have := HAI.out.2; simp only [List.length_cons, List.length_nil]; omega⟩, HO7.out, HMO.out, HX7.out⟩
            case measure => have := HLT.out; simp [intOf]; omega
    · have c1 : decide ((i : Int) < (m : Int)) = false := decide_eq_false (by omega)
      have c2 : ¬ (i : Int) < (m : Int) := by omega
      have c4 : decide (i < m) = false := decide_eq_false hlt
      obtain rfl : i = m := by omega
      have HME : Hid (∀ y, y ∈ acc.map lf2 ↔ y ∈ (prsS xs i).map lf2) := fun y => by
        rw [HAC.out.2.1 y, List.take_of_length_le (by rw [HO.out.len]; exact Nat.le_refl _)]
        unfold prsS
        rw [List.map_map]
        constructor
        · intro h
          obtain ⟨k, hk, rfl⟩ := List.mem_map.1 h
          exact List.mem_map.2 ⟨k, List.mem_range.2 (HO.out.mem.1 hk), rfl⟩
        · intro h
          obtain ⟨k, hk, rfl⟩ := List.mem_map.1 h
          exact List.mem_map.2 ⟨k, HO.out.mem.2 (List.mem_range.1 hk), rfl⟩
      clear hlt
      go_wp2_with fail
      go_ret2
      exact ⟨.inr ⟨_, rfl, acc, HOW.out.less HN2.out.size, HAC.out.1, HME.out, HAC.out.2.2⟩, HN2.out.trans HX.out⟩
end Go.Proofs.Ytjeadmndnbggmaa
