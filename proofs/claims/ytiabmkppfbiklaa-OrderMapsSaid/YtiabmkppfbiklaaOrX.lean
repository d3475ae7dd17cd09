/- The walk of OrderMaps, given what order's functions are asked for. -/
import Derived.Test.YtiabmkppfbiklaaOrB
import Derived.Test.YtiabmkppfbiklaaOrR
import Derived.Test.YtiabmkppfbiklaaRowO
import Derived.Test.YtiabmkppfbiklaaHybF
import Derived.Deep.QuietTactic
import Derived.BigQuiet
set_option linter.unusedVariables false
set_option linter.unusedSimpArgs false
namespace Go.Proofs.Ytiabmkppfbiklaa
open Go.RowKit

def sawM (ids : List Int) : List Value := (List.range 256).map fun (k : Nat) => .bool (decide ((k : Int) ∈ ids))
theorem sawM_get (ids : List Int) (k : Nat) (h : k < 256) : (sawM ids).toArray[k]? = some (.bool (decide ((k : Int) ∈ ids))) := by simp [sawM, h]
theorem sawM_set (ids : List Int) (q : Nat) (h : q < 256) : ((sawM ids).toArray).setIfInBounds q (.bool true) = (sawM (ids ++ [(q : Int)])).toArray := by
  apply Array.ext_getElem?
  intro k
  rw [Array.getElem?_setIfInBounds]
  have hz : (sawM ids).toArray.size = 256 := by simp [sawM]
  rw [hz]
  by_cases hk : k < 256
  · rw [sawM_get _ _ hk, sawM_get _ _ hk]
    by_cases hk2 : q = k
    · subst hk2
      rw [if_pos rfl, if_pos h, decide_eq_true (List.mem_append_right _ (List.mem_singleton.2 rfl))]
    · rw [if_neg hk2]
      have hne : ¬ (k : Int) = (q : Int) := by omega
      simp only [List.mem_append, List.mem_singleton, hne, or_false]
  · have e : ∀ p, (sawM p).toArray[k]? = none := fun p => by simp [sawM]; omega
    rw [e, e, if_neg (by omega)]
theorem zero256 (w : World) : (zeroValue 39).run Try.prog w = .ok (.agg (sawM []).toArray) w := by kernel_rfl
def valZ : Value := .agg #[.int .i64 0, .int .i64 0, .string ⟨#[]⟩, .slice none 0 0, .slice none 0 0]
theorem infoV : (Try.prog.info? 29).map (fun i => (i.zero, i.size, i.bytes)) = some (some valZ, 5, 80) := by kernel_rfl
/-- a pair of numbers, as two values -/
def pS (ps : List (Int × Int)) : List ValS := ps.flatMap fun p => [leafS 3 p.1, leafS 8 p.2]
def pM (ps : List (Int × Int)) : List Int := ps.map fun p => p.1 % 256
theorem pS_len : ∀ ps : List (Int × Int), (pS ps).length = 2 * ps.length
  | [] => rfl
  | p :: r => by
    have h := pS_len r
    unfold pS at h ⊢
    rw [List.flatMap_cons, List.length_append, h, List.length_cons]
    simp; omega
theorem pS_app (a b : List (Int × Int)) : pS (a ++ b) = pS a ++ pS b := List.flatMap_append
theorem leaf_one (k : Nat) (a : Int) : ∀ u ∈ (valA (leafS k a)).toList, u.oneCell' = true := fun u hu => by
  simp [valA, leafS] at hu
  rcases hu with rfl | rfl | rfl | rfl | rfl <;> rfl
theorem pS_one (ps : List (Int × Int)) : ∀ y ∈ pS ps, ∀ u ∈ (valA y).toList, u.oneCell' = true := fun y hy => by
  obtain ⟨p, -, h⟩ := List.mem_flatMap.1 hy
  rcases List.mem_cons.1 h with rfl | h
  · exact leaf_one _ _
  · have : y = leafS 8 p.2 := by simpa using h
    subst this; exact leaf_one _ _
theorem pS_drop : ∀ (r : Nat) (ps : List (Int × Int)), (pS ps).drop (r * 2) = pS (ps.drop r)
  | 0, ps => by rw [Nat.zero_mul, List.drop_zero, List.drop_zero]
  | r + 1, [] => by simp [pS]
  | r + 1, p :: ps => by
    rw [Nat.succ_mul]
    exact pS_drop r ps
theorem pS_take : ∀ (r : Nat) (ps : List (Int × Int)), (pS ps).take (r * 2) = pS (ps.take r)
  | 0, ps => by rw [Nat.zero_mul, List.take_zero, List.take_zero]; rfl
  | r + 1, [] => by simp [pS]
  | r + 1, p :: ps => by
    rw [Nat.succ_mul]
    show leafS 3 p.1 :: leafS 8 p.2 :: (pS ps).take (r * 2) = leafS 3 p.1 :: leafS 8 p.2 :: pS (ps.take r)
    rw [pS_take r ps]
/-- keys that are no two one, each of eight bits -/
def kOk (ps : List (Int × Int)) : Prop := (ps.map (·.1)).Nodup ∧ ∀ p ∈ ps, (-128 ≤ p.1 ∧ p.1 ≤ 127) ∧ 0 ≤ p.2 ∧ p.2 ≤ 1000
theorem kOk.new {ps : List (Int × Int)} (h : kOk ps) {x y : Int} (hx : -128 ≤ x ∧ x ≤ 127) (hy : 0 ≤ y ∧ y ≤ 1000) (hn : ¬ x % 256 ∈ pM ps) : kOk (ps ++ [(x, y)]) := by
  refine ⟨?_, fun p hp => ?_⟩
  · rw [List.map_append, List.nodup_append]
    refine ⟨h.1, by simp, fun a ha b hb e => ?_⟩
    have : b = x := by simpa using hb
    subst this
    subst e
    obtain ⟨p, hp, rfl⟩ := List.mem_map.1 ha
    exact hn (List.mem_map.2 ⟨p, hp, rfl⟩)
  · rcases List.mem_append.1 hp with hp | hp
    · exact h.2 p hp
    · have : p = (x, y) := by simpa using hp
      subst this; exact ⟨hx, hy⟩
def pV (ps : List (Int × Int)) : List (Int × Val) := ps.map fun p => (p.1, leafV 8 p.2)
theorem pV_keys (ps : List (Int × Int)) : (pV ps).map (·.1) = ps.map (·.1) := by unfold pV; rw [List.map_map]; rfl
theorem pS_rd (n : Nat) (w : World) : ∀ (ps : List (Int × Int)) (i : Nat) (h1 : i < (pS ps).length) (h2 : i < (flatK 3 (pV ps)).length), RdV (n + 1) w (pS ps)[i] (flatK 3 (pV ps))[i]
  | [], i, h1, _ => absurd h1 (by simp [pS])
  | p :: r, 0, _, _ => RdV.leaf n w 3 p.1
  | p :: r, 1, _, _ => RdV.leaf n w 8 p.2
  | p :: r, i + 2, h1, h2 => pS_rd n w r i (Nat.lt_of_succ_lt_succ (Nat.lt_of_succ_lt_succ h1)) (Nat.lt_of_succ_lt_succ (Nat.lt_of_succ_lt_succ h2))
theorem pV_len (ps : List (Int × Int)) : (flatK 3 (pV ps)).length = 2 * ps.length := by rw [flatK_len]; unfold pV; rw [List.length_map]
theorem flat_ok : ∀ (ps : List (Int × Int)), (∀ p ∈ ps, (-128 ≤ p.1 ∧ p.1 ≤ 127) ∧ 0 ≤ p.2 ∧ p.2 ≤ 1000) → ∀ (x : Val), x ∈ flatK 3 (pV ps) → leafOk x
  | [], _, x, h => by cases h
  | p :: r, hp, x, h => by
    have h : x ∈ leafV 3 p.1 :: leafV 8 p.2 :: flatK 3 (pV r) := h
    have h1 := hp p (by simp)
    rcases List.mem_cons.1 h with rfl | h
    · exact leafK_ok (by decide) (by omega)
    · rcases List.mem_cons.1 h with rfl | h
      · exact leafK_ok (by decide) (by omega)
      · exact flat_ok r (fun q hq => hp q (by simp [hq])) x h
theorem map_net (ps : List (Int × Int)) (h : ∀ p ∈ ps, (-128 ≤ p.1 ∧ p.1 ≤ 127) ∧ 0 ≤ p.2 ∧ p.2 ≤ 1000) (hl : ps.length ≤ 10) : netV 2 (.mk 13 0 [] (flatK 3 (pV ps)) []) :=
  ⟨by decide, rfl, by decide, .inr (.inr rfl), .inr rfl, .inl rfl, by rw [pV_len]; omega, flat_ok ps h⟩
theorem map_rd {w : World} {B : Nat} {v : Value} {ps : List (Int × Int)} (h : OwnS valA 5 29 w B v (pS ps)) : RdV 2 w ⟨13, 0, [], v, .slice none 0 0⟩ (.mk 13 0 [] (flatK 3 (pV ps)) []) :=
  ⟨rfl, rfl, rfl, RdL.own h (by rw [pS_len, pV_len]) (pS_rd 0 w ps), RdI.nil_ _⟩
theorem flatK_key (k : Nat) : ∀ (l : List (Int × Val)) (j : Nat) (hj : j < l.length) (h : 2 * j < (flatK k l).length), (flatK k l)[2 * j] = leafV k l[j].1
  | p :: r, 0, _, _ => rfl
  | p :: r, j + 1, hj, h => by
    have h0 : 2 * (j + 1) = 2 * j + 1 + 1 := by omega
    have e : ∀ (m : Nat) (hm : m < (flatK k (p :: r)).length) (he : m = 2 * j + 1 + 1), (flatK k (p :: r))[m] = leafV k (p :: r)[j + 1].1 := fun m hm he => by
      subst he
      exact flatK_key k r j (Nat.lt_of_succ_lt_succ hj) (Nat.lt_of_succ_lt_succ (Nat.lt_of_succ_lt_succ hm))
    exact e _ h h0
/-- what a row of pairs reads as: its keys -/
theorem RdL.key_at {w : World} {n k : Nat} {v : Value} {l : List (Int × Val)} (h : RdL (RdV (n + 1) w) w v (flatK k l)) :
    ∃ A c, v = .slice A (2 * l.length) c ∧ 2 * l.length ≤ c ∧ (0 < l.length → ∃ g off, A = some ⟨g, off, none⟩ ∧ g < w.heap.size ∧ ∀ j (hj : j < l.length), w.cell? ⟨g, off + (2 * j) * 5 + 1, none⟩ = some (.int .i64 l[j].1)) := by
  obtain ⟨A, c, ys, rfl, h1, h2, h3, h4, h5⟩ := h
  have hL := flatK_len k l
  refine ⟨A, c, by rw [hL], by omega, fun hpos => ?_⟩
  obtain ⟨g, off, rfl, hg, hc⟩ := h3 (by omega)
  refine ⟨g, off, rfl, hg, fun j hj => ?_⟩
  rw [hc (2 * j) (by omega) 1 (by decide)]
  have := h5 (2 * j) (by omega) (by omega)
  rw [flatK_key k l j hj] at this
  show some (Value.int .i64 ys[2 * j].n) = _
  rw [this.2.1]
theorem srtP_len {l : List (Int × Val)} (h : (l.map (·.1)).Nodup) : (srtP l).length = l.length := by
  have hs := srtP_all 0 (k := 3) (by decide) h
  have hn : l.Nodup := (List.pairwise_map.1 h).imp fun {a b} h e => h (by rw [e])
  have hu : (srtP l).Nodup := hs.2.1.imp fun {a b} h e => by subst e; exact absurd h (Int.lt_irrefl _)
  exact (List.perm_ext_iff_of_nodup hu hn).2 hs.2.2 |>.length_eq
set_option maxRecDepth 100000 in
set_option maxHeartbeats 12800000 in
theorem OrderMaps_of (hC : ∀ n, CmpC n) (hN : ∀ n, NormC n) (hI : ∀ n, IsC n) (hK : ∀ n, CopyC n) (a : Option Addr) (z : List Int) (cap : Nat) (t : Int) (w : World) (hr : Rd (Value.int .i8) w a z) (hl : z.length ≤ cap) (hm : cap ≤ maxLen) (hwf : ∀ n ∈ z, (Lit.int .i8 n).wf = true) (ht0 : 0 ≤ t) (ht1 : t ≤ 255) :
    Calls Try.prog 6 #[.slice a z.length cap, .int .u8 t] w fun e w' => e = .returned (.bool true) ∧ Below w.heap.size w w' := by
  have HBG := Lib.hid (orbegun_of hC hN hI hK w)
  have HNO := Lib.hid hN
  have HR := Lib.hid hr
  have hwf2 : ∀ x ∈ z, -128 ≤ x ∧ x ≤ 127 := fun x hx => by
    have := hwf x hx
    simp [Lit.wf, IntKind.min, IntKind.max, IntKind.signed, IntKind.bits] at this
    omega
  have HWF := Lib.hid hwf2
  obtain ⟨n, hn⟩ : ∃ n, z.length = n := ⟨_, rfl⟩
  have HZN := Lib.hid hn
  rw [hn] at hl ⊢
  clear hr hwf hn hwf2 hC hN hI hK
  go_enter Try.func6, Try.ntmps6
  go_wp2_with fail
  refine HBG.out.mono ?_; rintro e w1 ⟨rfl, hn1⟩
  have HN1 := Lib.hid hn1
  clear hn1 HBG
  by_cases h20 : 10 < n
  · have q1 : decide ((10 : Int) < (n : Int)) = true := decide_eq_true (by omega)
    have q2 : (10 : Int) < (n : Int) := by omega
    have q3 : decide (10 < n) = true := decide_eq_true h20
    go_wp2_with fail
    go_ret
    exact ⟨rfl, HN1.out⟩
  have q1 : decide ((10 : Int) < (n : Int)) = false := decide_eq_false (by omega)
  have q2 : ¬ (10 : Int) < (n : Int) := by omega
  have q3 : decide (10 < n) = false := decide_eq_false h20
  have hn10 : (n : Int) ≤ 10 := by omega
  have HN10 : Hid (n ≤ 10) := by unfold Hid; omega
  clear hl hm
  go_upto_region 5 with (fail)
  clear q1 q2 q3 h20
  obtain ⟨gs, hgs⟩ : ∃ g, w1.heap.size = g := ⟨_, rfl⟩
  obtain ⟨Z, hZ⟩ : ∃ Z, (sawM []).toArray = Z := ⟨_, rfl⟩
  have hz3 := zero256 w1
  rw [hZ] at hz3
  obtain ⟨w2, hw2⟩ : ∃ x, w1.alloc (.cells Z 39) = x := ⟨_, rfl⟩
  have hb2 : Blk w2 gs gs (sawM []).toArray 39 := by rw [← hw2, ← hgs, hZ]; exact Blk.new w1 _ _
  have hn2 : Nx w1 w2 := by rw [← hw2]; exact nx0 w1 _
  have HB2 := Lib.hid hb2
  have HN2 := Lib.hid hn2
  have HGS : Hid (w1.heap.size = gs ∧ gs < w2.heap.size) := ⟨hgs, hb2.lt⟩
  clear hb2 hn2 hZ
  go_wp2_with fail
  clear hw2 hgs hz3
  obtain ⟨gq, hgq⟩ : ∃ g, gs + 1 = g := ⟨_, rfl⟩
  have HGQ := Lib.hid hgq
  clear hgq
  go_loopw [6, 8] (fun v6 v8 wr => ∃ (i : Nat) (ps : List (Int × Int)), v8 = .int .i64 (i : Int) ∧ i ≤ n ∧ Hid (ps.length ≤ i) ∧ Hid (kOk ps) ∧ Hid (OwnS valA 5 29 wr gq v6 (pS ps)) ∧ Hid (Blk wr gs gs (sawM (pM ps)).toArray 39) ∧ Hid (Nx w1 wr)) (fun _ v _ => (n - intOf v).toNat)
  case atStart => exact ⟨0, [], rfl, Nat.zero_le _, Nat.le_refl _, ⟨List.nodup_nil, fun _ h => by cases h⟩, OwnS.nil_ _ _, HB2.out, HN2.out⟩
  case round =>
    obtain ⟨i, ps, rfl, hi, HPI, HKO, HO, HS, HX⟩ := hrel
    obtain ⟨A6, m6, hv6, -, -, -⟩ := OwnS.sl valA_size HO.out
    rw [hv6] at HO
    subst hv6
    rw [pS_len] at HO ⊢
    by_cases hlt : i < n
    · have q1 : decide ((i : Int) < (n : Int)) = true := decide_eq_true (by omega)
      have q2 : (i : Int) < (n : Int) := by omega
      have q3 : (0 : Int) ≤ (i : Int) := by omega
      have hiz : i < z.length := by rw [HZN.out]; exact hlt
      obtain ⟨x, hx⟩ : ∃ x, z[i] = x := ⟨_, rfl⟩
      have hx2 : -128 ≤ x ∧ x ≤ 127 := HWF.out x (hx ▸ List.getElem_mem hiz)
      obtain ⟨g, off, rfl, hg, hc0⟩ := HR.out.at_ hiz
      have hc : wr.cell? ⟨g, off + i, none⟩ = some (.int .i8 x) := ((HN1.out.trans HX.out).cell (p := ⟨g, off + i, none⟩) hg).trans (by rw [hc0, hx])
      have HLT := Lib.hid hlt
      obtain ⟨Q, hQ⟩ : ∃ Q : Nat, x % 256 = (Q : Int) := ⟨(x % 256).toNat, by omega⟩
      have hQ3 : (Q : Int) < 256 := by omega
      have hQ0 : (0 : Int) ≤ (Q : Int) := by omega
      have hQw : (Q : Int) % 256 = (Q : Int) := by omega
      have HQ3 : Hid (Q < 256) := by unfold Hid; omega
      have HXQ : Hid (x % 256 = (Q : Int)) := hQ
      have HX2 := Lib.hid hx2
      obtain ⟨D, hD⟩ : ∃ D, decide ((Q : Int) ∈ pM ps) = D := ⟨_, rfl⟩
      have hsd : wr.cell? ⟨gs, Q, none⟩ = some (.bool D) := by rw [HS.out.cell Q, sawM_get _ _ HQ3.out, hD]
      have HD := Lib.hid hD
      clear hx hx2 hlt hiz hD hc0
      cases D with
      | true =>
        go_wp2_with fail
        go_roundw
        case rel => exact ⟨i + 1, ps, by go_num, HLT.out, by have := HPI.out; unfold Hid; omega, HKO.out, HO.out, HS.out, HX.out⟩
        case measure => have := HLT.out; simp [intOf]; omega
      | false =>
        have hfr : wr.frozen? ⟨gs, Q, none⟩ = false := HS.out.free Q
        have hgne : g ≠ gs := by
          have h1 := HGS.out
          have h2 := HN1.out.size
          omega
        have HS5 : Hid (Blk (wr.setCell ⟨gs, Q, none⟩ (.bool true)) gs gs (sawM (pM ps ++ [(Q : Int)])).toArray 39) := by
          unfold Hid; rw [← sawM_set _ _ HQ3.out]; exact HS.out.put Q _
        have hot : Oth gs wr (wr.setCell ⟨gs, Q, none⟩ (.bool true)) := Oth.set _ _ _ _
        have HO5 : Hid (OwnS valA 5 29 (wr.setCell ⟨gs, Q, none⟩ (.bool true)) gq (.slice A6 (2 * ps.length) m6) (pS ps)) := HO.out.oth hot (by have := HGQ.out; omega)
        have HX5 : Hid (Nx w1 (wr.setCell ⟨gs, Q, none⟩ (.bool true))) := HX.out.put' (by have := HGS.out; omega) Q _
        have hc5 : (wr.setCell ⟨gs, Q, none⟩ (.bool true)).cell? ⟨g, off + i, none⟩ = some (.int .i8 x) := by
          rw [← hc]
          unfold World.cell?
          simp only
          rw [hot.block g (Nat.lt_of_lt_of_le hg (Nat.le_trans HN1.out.size HX.out.size)) hgne]
        clear hot
        have hwx : wrap64 x = x := by
          have := HX2.out
          simp only [wrap64]; omega
        go_upto_region 12 with (fail)
        clear hsd hfr hc
        generalize wr.setCell ⟨gs, Q, none⟩ (.bool true) = w5 at *
        obtain ⟨g6, hg6⟩ : ∃ g, w5.heap.size = g := ⟨_, rfl⟩
        obtain ⟨w6, hw6⟩ : ∃ y, w5.alloc (.cells #[.int .i64 3, .int .i64 x, .string ⟨#[]⟩, .slice none 0 0, .slice none 0 0, .int .i64 8, .int .i64 (i : Int), .string ⟨#[]⟩, .slice none 0 0, .slice none 0 0] 29) = y := ⟨_, rfl⟩
        have hb6 : Blk w6 g6 g6 (rowL valA [leafS 3 x, leafS 8 (i : Int)]).toArray 29 := by rw [← hw6, ← hg6]; exact Blk.new w5 _ _
        have hn6 : Nx w5 w6 := by rw [← hw6]; exact nx0 _ _
        have HO6 := Lib.hid (HO5.out.nx hn6)
        have HS6 := Lib.hid (HS5.out.below hn6)
        have HX6 := Lib.hid (HX5.out.trans hn6)
        have hy6 : ∀ j (h : j < [leafS 3 x, leafS 8 (i : Int)].length) p, p < 5 → w6.cell? ⟨g6, 0 + j * 5 + p, none⟩ = (valA [leafS 3 x, leafS 8 (i : Int)][j])[p]? := by
          obtain ⟨g', off', e, h1, h2⟩ := RdO.blk hb6 (by simp)
          simp only [Option.some.injEq, Addr.mk.injEq] at e
          obtain ⟨rfl, rfl, -⟩ := e
          exact h2
        have HY6 := Lib.hid hy6
        have hl6 : ((pS ps).length : Int) + ([leafS 3 x, leafS 8 (i : Int)].length : Int) ≤ 100000 := by
          rw [pS_len]; have := HPI.out; have := HN10.out; simp only [List.length_cons, List.length_nil]; omega
        have HL6 := Lib.hid hl6
        have hq6 : gq ≤ w6.heap.size := by have := HGQ.out; have := HS6.out.lt; omega
        have HQ6 := Lib.hid hq6
        clear hb6 hn6 hy6 hl6 hq6
        have HON : Hid (∀ y ∈ [leafS 3 x, leafS 8 (i : Int)], ∀ u ∈ (valA y).toList, u.oneCell' = true) := fun y hy => by
          rcases List.mem_cons.1 hy with rfl | hy
          · exact leaf_one _ _
          · have : y = leafS 8 (i : Int) := by simpa using hy
            subst this; exact leaf_one _ _
        go_wp2_with (at_builtin; go_must (refine wpList_appO (f := valA) (k := 5) (z := valZ) _ infoV Try.underlying25 rfl (by decide) (by decide) (fun _ => rfl) rfl _ _ rfl gq (.slice A6 (2 * ps.length) m6) (pS ps) [leafS 3 x, leafS 8 (i : Int)] HON.out rfl HO6.out g6 0 2 2 rfl rfl HY6.out HL6.out HQ6.out ?_; intro v7 w7 hown7 hbel7 hkeep7))
        have hx7 : Nx w1 w7 := Below.trans (B := w1.heap.size) HX6.out (hbel7.mono (by have := HGQ.out; have := HGS.out.1; omega))
        have hs7 : Blk w7 gs gs (sawM (pM ps ++ [(Q : Int)])).toArray 39 := ⟨HS6.out.1, by rw [hbel7.block gs (by have := HGQ.out; omega)]; exact HS6.out.2⟩
        have HO7 := Lib.hid hown7
        have HX7 := Lib.hid hx7
        have HS7 := Lib.hid hs7
        clear hown7 hbel7 hkeep7 hx7 hs7 hw6 hg6 hc5 hwx
        go_wp2_with fail
        go_roundw
        case rel =>
          refine ⟨i + 1, ps ++ [(x, (i : Int))], by go_num, HLT.out, by have := HPI.out; unfold Hid; simp only [List.length_append, List.length_cons, List.length_nil]; omega, HKO.out.new HX2.out (by have := HLT.out; have := HN10.out; omega) (by rw [HXQ.out]; exact of_decide_eq_false HD.out), ?_, ?_, HX7.out⟩
          · unfold Hid; rw [pS_app]; exact HO7.out
          · unfold Hid pM; rw [List.map_append]; show Blk w7 gs gs (sawM (pM ps ++ [x % 256])).toArray _; rw [HXQ.out]; exact HS7.out
        case measure => have := HLT.out; simp [intOf]; omega
    · have q1 : decide ((i : Int) < (n : Int)) = false := decide_eq_false (by omega)
      have q2 : ¬ (i : Int) < (n : Int) := by omega
      obtain ⟨L, hL⟩ : ∃ L, ps.length = L := ⟨_, rfl⟩
      have HLL := Lib.hid hL
      have hL10 : (L : Int) ≤ 10 := by have := HPI.out; have := HN10.out; omega
      rw [hL] at HO HPI ⊢
      obtain ⟨M, hM⟩ : ∃ M, 2 * L = M := ⟨_, rfl⟩
      have hMi : (2 : Int) * (L : Int) = (M : Int) := by omega
      have HMM := Lib.hid hM
      rw [hM] at HO ⊢
      clear hL hM hlt
      obtain ⟨gb, hgb⟩ : ∃ g, wr.heap.size = g := ⟨_, rfl⟩
      have HGB := Lib.hid hgb
      clear hgb
      go_upto_if 52 with fail
      go_cut [7] (fun v7 wx => ∃ (p2 : List (Int × Int)) (A7 : Option Addr) (m7 : Nat), v7 = .slice A7 M m7 ∧ Hid ((p2.map (·.1)).Nodup ∧ (∀ y, y ∈ p2 ↔ y ∈ ps)) ∧ Hid (OwnS valA 5 29 wx gb (.slice A7 M m7) (pS p2)) ∧ Hid (OwnS valA 5 29 wx gq (.slice A6 M m6) (pS ps)) ∧ Hid (Nx w1 wx))
      case first =>
        by_cases hL0 : L = 0
        · subst hL0
          have h0 : M = 0 := by have := HMM.out; omega
          subst h0
          go_wp2_with fail
          go_meet
          case rel =>
            have hp : ps = [] := List.eq_nil_of_length_eq_zero HLL.out
            exact ⟨[], none, 0, rfl, ⟨List.nodup_nil, fun y => by rw [hp]⟩, OwnS.nil_ _ _, HO.out, HX.out⟩
        · have b1 : decide ((0 : Int) < (M : Int)) = true := decide_eq_true (by omega)
          have b2 : (0 : Int) < (M : Int) := by omega
          have b3 : decide (0 < M) = true := decide_eq_true (by omega)
          have b4 : 0 < M := by omega
          have hL1 : (0 : Int) < (L : Int) := by omega
          have hLn : ¬ (L : Int) = 0 := by omega
          have htd : (M : Int).tdiv 2 = (L : Int) := by rw [Int.tdiv_eq_ediv_of_nonneg (by omega)]; omega
          obtain ⟨r, hr, hrL⟩ : ∃ r : Nat, t % (L : Int) = (r : Int) ∧ r < L := ⟨(t % (L : Int)).toNat, by have := Int.emod_nonneg t hLn; omega, by have := Int.emod_nonneg t hLn; have := Int.emod_lt_of_pos t hL1; omega⟩
          have htm : t.tmod (L : Int) = (r : Int) := by rw [Int.tmod_eq_emod_of_nonneg ht0, hr]
          obtain ⟨K, hK⟩ : ∃ K, r * 2 = K := ⟨_, rfl⟩
          have hKi : (r : Int) * 2 = (K : Int) := by omega
          have hwt : wrap64 t = t := by simp only [wrap64]; omega
          have hK0 : (0 : Int) ≤ (K : Int) := by omega
          have hKM : (K : Int) ≤ (M : Int) := by omega
          have hKM2 : (K : Int) < (M : Int) := by omega
          obtain ⟨A, c, e, h1, -, hrs⟩ := OwnS.sl valA_size HO.out
          simp only [Value.slice.injEq] at e
          obtain ⟨rfl, -, rfl⟩ := e
          have hpl : (pS ps).length = M := by rw [pS_len, HLL.out, HMM.out]
          obtain ⟨ga, rfl, hga, hcs⟩ := hrs (by omega)
          have hM6 : (M : Int) ≤ (m6 : Int) := by omega
          have n1 : K ≤ m6 := by omega
          have n2 : ¬ m6 = K := by omega
          have n3 : K ≤ M := by omega
          have n4 : ¬ M = K := by omega
          have n5 : (K : Int) ≤ (m6 : Int) := by omega
          have HCS : Hid (ga < wr.heap.size ∧ ∀ j (h : j < (pS ps).length) q, q < 5 → wr.cell? ⟨ga, j * 5 + q, none⟩ = (valA (pS ps)[j])[q]?) := ⟨hga, hcs⟩
          have HPL : Hid ((pS ps).length = M) := hpl
          clear h1 hrs hga hcs hpl
          have HRK : Hid (r < L ∧ r * 2 = K) := ⟨hrL, hK⟩
          clear hr hK hrL
          go_upto_region 15 with (fail)
          refine EF.wp_region_hyb (st := 8) [(0, true), (1, true), (2, true), (3, true), (5, true), (6, true), (7, true), (4, false), (8, false), (9, false)] rfl (by kernel_rfl) ?_
          iterate 7 (refine EF.hyb_calm rfl (fun K hK => ?_); go_simp; refine hK _ ?_; clear hK K)
          have hcr : (M : Int) - (K : Int) = ((M - K : Nat) : Int) := by omega
          have HAO : Hid (∀ wx, Nx wr wx → OwnS valA 5 29 wx gq (.slice (some ⟨ga, 0, none⟩) M m6) (pS ps) ∧ ∀ j (h : j < (pS ps).length) q, q < 5 → wx.cell? ⟨ga, j * 5 + q, none⟩ = (valA (pS ps)[j])[q]?) := fun wx hx =>
            ⟨HO.out.nx hx, fun j h q hq => (hx.cell (p := ⟨ga, j * 5 + q, none⟩) HCS.out.1).trans (HCS.out.2 j h q hq)⟩
          have HPO : Hid (∀ y ∈ (pS ps).drop K, ∀ u ∈ (valA y).toList, u.oneCell' = true) := fun y hy => pS_one ps y (List.mem_of_mem_drop hy)
          refine EF.hyb_alone rfl (fun w3 hn3 K2 hK2 => ?_)
          rw [if_pos (show Region.wanted _ _ = true from rfl)]
          have hsl3 : ((pS ps).drop K).length = M - K := by rw [List.length_drop, HPL.out]
          refine op_appO w3 (f := valA) (k := 5) (z := valZ) infoV Try.underlying25 rfl (by decide) (by decide) (fun _ => rfl) _ _ rfl gb (.slice none 0 0) [] ((pS ps).drop K) HPO.out rfl (OwnS.nil_ _ _) ga (K * 5) (M - K) (m6 - K) hsl3.symm rfl ?_ ?_ ?_ ?_
          · intro j hj q hq
            have h := (HAO.out w3 hn3).2 (K + j) (by rw [List.length_drop] at hj; omega) q hq
            rw [List.getElem_drop, ← h, Nat.add_mul]
          · rw [hsl3]; simp only [List.length_nil]; omega
          · rw [← HGB.out]; exact hn3.size
          intro v8 w8 hown8 hbel8 hkeep8
          have hn8 : Nx w3 w8 := ⟨hbel8.os, hbel8.tape, hbel8.output, hbel8.size, fun k hk => hkeep8 k hk (by intro e; cases e)⟩
          refine hK2 _ _ (.inr hn8) ?_
          clear hK2 K2 hbel8 hkeep8
          refine EF.hyb_alone rfl (fun w9 hn9 K3 hK3 => ?_)
          rw [if_pos (show Region.wanted _ _ = true from rfl)]
          have hn39 : Nx wr w9 := hn3.trans (hn8.trans hn9)
          have hsl4 : ((pS ps).take K).length = K := by rw [List.length_take, HPL.out]; omega
          refine op_appO w9 (f := valA) (k := 5) (z := valZ) infoV Try.underlying25 rfl (by decide) (by decide) (fun _ => rfl) _ _ rfl gb v8 ([] ++ (pS ps).drop K) ((pS ps).take K) (fun y hy => pS_one ps y (List.mem_of_mem_take hy)) rfl (hown8.nx hn9) ga 0 K m6 hsl4.symm rfl ?_ ?_ ?_ ?_
          · intro j hj q hq
            have h := (HAO.out w9 hn39).2 j (by rw [List.length_take] at hj; omega) q hq
            rw [List.getElem_take, ← h, Nat.zero_add]
          · rw [hsl4, List.nil_append, hsl3]; omega
          · rw [← HGB.out]; exact hn39.size
          intro v10 w10 hown10 hbel10 hkeep10
          refine hK3 _ _ (.inl rfl) ?_
          clear hK3 K3 hkeep10
          have hn10 : Nx wr w10 := Below.trans (B := wr.heap.size) hn39 (hbel10.mono (Nat.le_of_eq HGB.out))
          refine EF.hyb_alone rfl (fun w11 hn11 K4 hK4 => ?_)
          go_simp
          refine hK4 _ _ (.inr (Nx.refl _)) ?_
          clear hK4 K4
          refine EF.hyb_nil (fun w12 hn12 => ?_)
          have hpp : (pS ps).drop K ++ (pS ps).take K = pS (ps.drop r ++ ps.take r) := by
            rw [pS_app, ← HRK.out.2, pS_drop, pS_take]
          rw [List.nil_append, hpp] at hown10
          have HO12 := Lib.hid (hown10.nx (hn11.trans hn12))
          have HN12 := Lib.hid (hn10.trans (hn11.trans hn12))
          obtain ⟨A10, c10, hv10, -, -, -⟩ := OwnS.sl valA_size HO12.out
          rw [pS_len, List.length_append, List.length_drop, List.length_take, show 2 * (ps.length - r + min r ps.length) = M by have := HRK.out; have := HLL.out; have := HMM.out; omega] at hv10
          rw [hv10] at HO12
          subst hv10
          clear hown10 hown8 hn3 hn8 hn9 hn39 hn10 hn11 hn12 hbel10
          go_wp2_with fail
          go_meet
          case rel =>
            have hpm : (ps.drop r ++ ps.take r).Perm ps := (List.perm_append_comm).trans (by rw [List.take_append_drop])
            exact ⟨ps.drop r ++ ps.take r, A10, c10, rfl, ⟨(hpm.map (·.1)).nodup_iff.2 HKO.out.1, fun y => hpm.mem_iff⟩, HO12.out, HO.out.nx HN12.out, HX.out.trans HN12.out⟩
      case rest =>
        obtain ⟨p2, A7, m7, rfl, HP2, HO2, HOA, HXC⟩ := hcut
        have HPI2 : Hid ((L : Int) ≤ 10) := hL10
        clear HS HO HX HPI HN10 hL10 hMi hn10
        have hp2k : (p2.map (·.1)).Nodup := HP2.out.1
        have hsame : srtP (pV p2) = srtP (pV ps) := srtP_same (by rw [pV_keys]; exact hp2k) (by rw [pV_keys]; exact HKO.out.1) fun y => by
          unfold pV
          simp only [List.mem_map]
          constructor
          · rintro ⟨q, hq, rfl⟩; exact ⟨q, (HP2.out.2 q).1 hq, rfl⟩
          · rintro ⟨q, hq, rfl⟩; exact ⟨q, (HP2.out.2 q).2 hq, rfl⟩
        have hslen : (srtP (pV ps)).length = L := by
          rw [srtP_len (by rw [pV_keys]; exact HKO.out.1)]
          unfold pV; rw [List.length_map, HLL.out]
        have hup : upP (srtP (pV ps)) := (srtP_all 0 (k := 3) (by decide) (l := pV ps) (by rw [pV_keys]; exact HKO.out.1)).2.1
        have hn1 := HNO.out 2 _ _ _ (map_rd HOA.out) (map_net ps HKO.out.2 (by have := HLL.out; have := HPI2.out; omega))
        have hm1 : normV 2 (.mk 13 0 [] (flatK 3 (pV ps)) []) = (.mk 13 0 [] (flatK 3 (srtP (pV ps))) [], 0) := norm_map 0 (k := 3) (k2 := 8) (by decide) (by decide) HKO.out.1
        have hm2 : normV 2 (.mk 13 0 [] (flatK 3 (pV p2)) []) = (.mk 13 0 [] (flatK 3 (srtP (pV p2))) [], 0) := norm_map 0 (k := 3) (k2 := 8) (by decide) (by decide) hp2k
        rw [hsame] at hm2
        rw [hm1] at hn1
        have hp2l : p2.length = L := by
          have h1 := srtP_len (l := pV p2) (by rw [pV_keys]; exact hp2k)
          rw [hsame, hslen] at h1
          unfold pV at h1; rw [List.length_map] at h1; exact h1.symm
        have HP2N : Hid (netV 2 (.mk 13 0 [] (flatK 3 (pV p2)) [])) := map_net p2 (fun q hq => HKO.out.2 q ((HP2.out.2 q).1 hq)) (by have := HPI2.out; omega)
        clear hp2l
        have HNA := Lib.hid hn1
        have HM2 := Lib.hid hm2
        obtain ⟨SP, hSP⟩ : ∃ SP, srtP (pV ps) = SP := ⟨_, rfl⟩
        rw [hSP] at HNA HM2 hslen hup
        have HSL := Lib.hid hslen
        have HUP := Lib.hid hup
        clear hn1 hm1 hm2 hsame hp2k hSP hslen hup HKO HP2
        go_wp2_with fail
        refine HNA.out.mono ?_
        rintro e w3 ⟨⟨xk, xn, xs, xl, xd⟩, rfl, hrx, ⟨xA, xu, xc, rfl⟩, ⟨dA, du, dc, rfl⟩, hn3⟩
        have hrx0 := hrx trivial
        obtain ⟨h1, h2, h3, hl, hd⟩ := hrx0
        dsimp only at h1 h2 h3 hl hd
        subst h1 h2 h3
        obtain ⟨A, c, hv, hc1, hcell⟩ := RdL.key_at hl
        simp only [Value.slice.injEq] at hv
        obtain ⟨rfl, rfl, rfl⟩ := hv
        rw [valA_agg]
        rw [HSL.out, HMM.out] at hrx hl hc1 ⊢
        obtain ⟨gx, hgx⟩ : ∃ g, w3.heap.size = g := ⟨_, rfl⟩
        obtain ⟨w4, hw4⟩ : ∃ y, w3.alloc (.cells #[.int .i64 13, .int .i64 0, .string ⟨#[]⟩, .slice xA M xc, .slice dA du dc] 29) = y := ⟨_, rfl⟩
        have hb4 : Blk w4 gx gx #[.int .i64 13, .int .i64 0, .string ⟨#[]⟩, .slice xA M xc, .slice dA du dc] 29 := by rw [← hw4, ← hgx]; exact Blk.new w3 _ _
        have hn4 : Nx w3 w4 := by rw [← hw4]; exact nx0 _ _
        have HB4 := Lib.hid hb4
        have HRX4 := Lib.hid ((hrx trivial).nx hn4)
        have HN4 := Lib.hid (HXC.out.trans (hn3.trans hn4))
        have HCE : Hid (0 < SP.length → ∃ g off, xA = some ⟨g, off, none⟩ ∧ g < w4.heap.size ∧ ∀ j (hj : j < SP.length), w4.cell? ⟨g, off + (2 * j) * 5 + 1, none⟩ = some (.int .i64 SP[j].1)) := fun h => by
          obtain ⟨g, off, e, h1, h2⟩ := hcell h
          exact ⟨g, off, e, Nat.lt_of_lt_of_le h1 hn4.size, fun j hj => (hn4.cell (p := ⟨g, off + (2 * j) * 5 + 1, none⟩) h1).trans (h2 j hj)⟩
        have hn2 := HNO.out 2 w4 _ _ (map_rd (HO2.out.nx (hn3.trans hn4))) HP2N.out
        rw [HM2.out] at hn2
        have HNB := Lib.hid hn2
        clear hn2 hb4 hn3 hn4 hrx hl hd hc1 hcell HNA HO2 HOA HXC HNO HM2
        go_wp2_with fail
        clear hw4 hgx
        refine HNB.out.mono ?_
        rintro e w5 ⟨⟨yk, yn, ys, yl, yd⟩, rfl, hry, ⟨yA, yu, yc, rfl⟩, ⟨fA, fu, fc, rfl⟩, hn5⟩
        have hry0 := hry trivial
        obtain ⟨h1, h2, h3, hl, hd⟩ := hry0
        dsimp only at h1 h2 h3 hl hd
        subst h1 h2 h3
        obtain ⟨A, c, hv, -, -⟩ := RdL.key_at hl
        simp only [Value.slice.injEq] at hv
        obtain ⟨rfl, rfl, rfl⟩ := hv
        rw [valA_agg]
        rw [HSL.out, HMM.out] at hry ⊢
        obtain ⟨gy, hgy⟩ : ∃ g, w5.heap.size = g := ⟨_, rfl⟩
        obtain ⟨w6, hw6⟩ : ∃ y, w5.alloc (.cells #[.int .i64 13, .int .i64 0, .string ⟨#[]⟩, .slice yA M yc, .slice fA fu fc] 29) = y := ⟨_, rfl⟩
        have hb6 : Blk w6 gy gy #[.int .i64 13, .int .i64 0, .string ⟨#[]⟩, .slice yA M yc, .slice fA fu fc] 29 := by rw [← hw6, ← hgy]; exact Blk.new w5 _ _
        have hn6 : Nx w5 w6 := by rw [← hw6]; exact nx0 _ _
        have HBX := Lib.hid ((HB4.out.below hn5).below hn6)
        have HBY := Lib.hid hb6
        have HRX := Lib.hid ((HRX4.out.nx hn5).nx hn6)
        have HRY := Lib.hid ((hry trivial).nx hn6)
        have HN6 := Lib.hid (HN4.out.trans (hn5.trans hn6))
        have HN46 := Lib.hid (hn5.trans hn6)
        have a0 : w6.cell? ⟨gx, 0, none⟩ = some (.int .i64 13) := HBX.out.cell 0
        have a1 : w6.cell? ⟨gx, 1, none⟩ = some (.int .i64 0) := HBX.out.cell 1
        have a2 : w6.cell? ⟨gx, 2, none⟩ = some (.string ⟨#[]⟩) := HBX.out.cell 2
        have a3 : w6.cell? ⟨gx, 3, none⟩ = some (.slice xA M xc) := HBX.out.cell 3
        have a4 : w6.cell? ⟨gx, 4, none⟩ = some (.slice dA du dc) := HBX.out.cell 4
        have b0 : w6.cell? ⟨gy, 0, none⟩ = some (.int .i64 13) := HBY.out.cell 0
        have b1 : w6.cell? ⟨gy, 1, none⟩ = some (.int .i64 0) := HBY.out.cell 1
        have b2 : w6.cell? ⟨gy, 2, none⟩ = some (.string ⟨#[]⟩) := HBY.out.cell 2
        have b3 : w6.cell? ⟨gy, 3, none⟩ = some (.slice yA M yc) := HBY.out.cell 3
        have b4 : w6.cell? ⟨gy, 4, none⟩ = some (.slice fA fu fc) := HBY.out.cell 4
        have u1 : ((M : Int) == (M : Int)) = true := by simp
        have u2 : (M == M) = true := by simp
        clear hb6 hn5 hn6 hry hl hd HNB HRX4 HB4
        go_wp2_with fail
        clear hw6 hgy
        refine (Twins_any 2 w6 ⟨13, 0, [], .slice xA M xc, .slice dA du dc⟩ ⟨13, 0, [], .slice yA M yc, .slice fA fu fc⟩ _ _ HRX.out HRY.out).mono ?_
        rintro e w7 ⟨rfl, hn7⟩
        rw [twnV_self 2 _ HRX.out.depth]
        have HN7 := Lib.hid (HN6.out.trans hn7)
        have HN47 := Lib.hid (HN46.out.trans hn7)
        have HBX7 := Lib.hid (HBX.out.below hn7)
        clear hn7 a0 a1 a2 a3 a4 b0 b1 b2 b3 b4 HBX HBY HRX HRY HN46 u1 u2
        go_wp2_with fail
        go_loopw [14] (fun v14 wq => ∃ q : Nat, v14 = .int .i64 (q : Int) ∧ Hid (∃ j, q = 2 * j + 2) ∧ q ≤ M + 2 ∧ Hid (Nx w7 wq)) (fun v _ => (M + 2 - intOf v).toNat)
        case atStart => exact ⟨2, rfl, ⟨0, rfl⟩, by omega, Nx.refl _⟩
        case round =>
          obtain ⟨q, rfl, HJ, hq2, HQ⟩ := hrel
          have a3 : _ = some (Value.slice xA M xc) := (HQ.out.cell (p := ⟨gx, 3, none⟩) HBX7.out.lt).trans (HBX7.out.cell 3)
          by_cases hlt : q < M
          · have c1 : decide ((q : Int) < (M : Int)) = true := decide_eq_true (by omega)
            have c2 : (q : Int) < (M : Int) := by omega
            have c3 : decide (q < M) = true := decide_eq_true hlt
            obtain ⟨j, hj⟩ := HJ.out
            obtain ⟨q0, hq0⟩ : ∃ q0, 2 * j = q0 := ⟨_, rfl⟩
            have hqi : (q : Int) - 2 = (q0 : Int) := by omega
            have hj2 : j + 1 < SP.length := by have := HSL.out; have := HMM.out; omega
            obtain ⟨g, off, rfl, hg, hcs⟩ := HCE.out (by omega)
            have hk1 := hcs j (by omega)
            have hk2 := hcs (j + 1) hj2
            rw [hq0] at hk1
            rw [show 2 * (j + 1) = q by omega] at hk2
            obtain ⟨X, hX⟩ : ∃ X, SP[j].1 = X := ⟨_, rfl⟩
            obtain ⟨Y, hY⟩ : ∃ Y, SP[j + 1].1 = Y := ⟨_, rfl⟩
            have hXY : X < Y := by rw [← hX, ← hY]; exact List.pairwise_iff_getElem.1 HUP.out j (j + 1) (by omega) hj2 (by omega)
            rw [hX] at hk1
            rw [hY] at hk2
            have z1 := ((HN47.out.trans HQ.out).cell (p := ⟨g, off + q0 * 5 + 1, none⟩) hg).trans hk1
            have z2 := ((HN47.out.trans HQ.out).cell (p := ⟨g, off + q * 5 + 1, none⟩) hg).trans hk2
            have d1 : decide (Y ≤ X) = false := decide_eq_false (by omega)
            have d2 : ¬ Y ≤ X := by omega
            have d3 : (0 : Int) ≤ (q0 : Int) := by omega
            have d4 : (q0 : Int) < (M : Int) := by omega
            have d5 : (0 : Int) ≤ (q : Int) := by omega
            have d6 : (M : Int) ≤ 1000000 := by have := HPI2.out; have := HMM.out; omega
            have HLT := Lib.hid hlt
            have HJ2 : Hid (∃ j, q + 2 = 2 * j + 2) := ⟨j + 1, by omega⟩
            clear hk1 hk2 hX hY hXY hcs hg hj hj2 hq0 hlt
            go_wp2_with fail
            go_quiet (fail)
            go_wp2_with fail
            go_roundw
            case rel => exact ⟨q + 2, by go_num, HJ2.out, by have := HLT.out; omega, HQ.out.dr _⟩
            case measure => have := HLT.out; simp [intOf]; omega
          · have c1 : decide ((q : Int) < (M : Int)) = false := decide_eq_false (by omega)
            have c2 : ¬ (q : Int) < (M : Int) := by omega
            have c3 : decide (q < M) = false := decide_eq_false hlt
            clear hlt
            go_wp2_with fail
            go_ret
            exact ⟨rfl, HN1.out.trans (HN7.out.trans HQ.out)⟩
end Go.Proofs.Ytiabmkppfbiklaa
