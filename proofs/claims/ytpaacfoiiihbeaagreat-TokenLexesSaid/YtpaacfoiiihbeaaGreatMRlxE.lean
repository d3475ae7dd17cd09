/- The contract of the document's lexer: digits in tens, with a sign. The contract of the document's lexer: a name. The contracts of the document's lexer: what stands behind a number, digits in sixteens. The contract of the document's lexer: a number in sixteens. The longest number ahead, in the document's steps. Plain lemmas. What the document's lexer sees in a number. Plain lemmas. A word, in the document's steps. Plain lemmas. -/
import Derived.Test.YtpaacfoiiihbeaaGreatMRlxA
import Derived.Laws.Rows
import Derived.Deep.DeepCutAuto
-- RlxE
set_option linter.unusedVariables false
set_option linter.unusedSimpArgs false
namespace Go.Proofs.YtpaacfoiiihbeaaGreat
open Go.RowKit

set_option maxRecDepth 100000 in
set_option maxHeartbeats 6400000 in
theorem refTen10_any (s : ByteArray) (l : List UInt8) (w : World) (hl : Tx s l) (h0 : l ≠ []) (hd : ∀ c ∈ l.drop (sgnN l), isDig c = true) (hs : (l.length : Int) ≤ 100000) :
    Calls Tryz.prog 63 #[.string s] w fun e w' => (∃ n, e = .returned (.tuple #[.int .i64 n, .int .i64 ((wholeS l).2 : Nat)]) ∧ ((wholeS l).2 = 0 → n = (wholeS l).1)) ∧ w' = w := by
  obtain ⟨c, r, rfl⟩ : ∃ c r, l = c :: r := by cases l with
    | nil => exact absurd rfl h0
    | cons c r => exact ⟨c, r, rfl⟩
  obtain ⟨hp, t0, e0, e1, ht, e2, e3⟩ := hl.cons
  have HL := Lib.hid hl
  obtain ⟨neg, hneg⟩ : ∃ neg, ((c.toNat : Int) == 45) = neg := ⟨_, rfl⟩
  obtain ⟨pos, hpos⟩ : ∃ pos, ((c.toNat : Int) == 43) = pos := ⟨_, rfl⟩
  have hsg : sgnN (c :: r) = if neg || pos then 1 else 0 := by
    unfold sgnN; dsimp only
    rw [← hneg, ← hpos]
    by_cases h1 : c.toNat = 45
    · simp [h1]
    · by_cases h2 : c.toNat = 43
      · simp [h2]
      · rw [if_neg (by omega), if_neg]
        simp; omega
  obtain ⟨ds, hds⟩ : ∃ ds, (c :: r).drop (sgnN (c :: r)) = ds := ⟨_, rfl⟩
  rw [hds] at hd
  have hdl : (ds.length : Int) ≤ 100000 := by
    have : ds.length ≤ (c :: r).length := by rw [← hds]; simp
    omega
  -- the text of the digits
  obtain ⟨u, HU, hu⟩ : ∃ u : ByteArray, Hid (Tx u ds) ∧ ((neg || pos) = true → u = t0) ∧ ((neg || pos) = false → u = s) := by
    cases hb : (neg || pos)
    · rw [hb] at hsg
      rw [hsg] at hds
      refine ⟨s, ?_, fun h => by simp at h, fun _ => rfl⟩
      subst hds; exact hl
    · rw [hb] at hsg
      rw [hsg] at hds
      refine ⟨t0, ?_, fun _ => rfl, fun h => by simp at h⟩
      subst hds; exact ht
  obtain ⟨T, hT⟩ : ∃ T, Hid (natB 10 ds = T) := ⟨_, rfl⟩
  have HX : Hid (wholeS (c :: r) = if 60 < ds.length then (0, 4) else if (if neg then 9223372036854775808 else 9223372036854775807) < T then (0, 5) else ((if neg then -(T : Int) else (T : Int)), 0)) := by
    have hn : negB (c :: r) = neg := by
      unfold negB; dsimp only; rw [← hneg, Bool.eq_iff_iff]; simp; omega
    unfold Hid wholeS; dsimp only; rw [hds, hT.out, hn]
  have HD := Lib.hid hd
  have HMo : Hid (∀ n, natB 10 (ds.take n) ≤ T) := by
    intro n
    rw [← hT.out]
    have := natB_mono 10 (by decide) (ds.take n) (ds.drop n)
    rwa [List.take_append_drop] at this
  obtain ⟨X, hX⟩ : ∃ X, Hid (wholeS (c :: r) = X) := ⟨_, rfl⟩
  rw [hX.out] at HX ⊢
  obtain ⟨xv, xe⟩ := X
  dsimp only
  have hus : (u.size : Int) = (ds.length : Int) := by rw [HU.out.size]
  have HUe := Lib.hid hu
  clear hl hd ht hds hsg h0 hu
  have hnp : neg = true ∨ neg = false ∧ pos = true ∨ neg = false ∧ pos = false := by cases neg <;> cases pos <;> simp
  have b45 := hneg
  have b43 := hpos
  clear hneg hpos
  rcases hnp with rfl | ⟨rfl, rfl⟩ | ⟨rfl, rfl⟩
  all_goals
    first
      | (obtain rfl : u = t0 := HUe.out.1 rfl)
      | (obtain rfl : u = s := HUe.out.2 rfl
         clear e1 e2 e3)
    clear HUe
    by_cases h60 : 60 < ds.length
    · have g1 : decide ((60 : Int) < (ds.length : Int)) = true := decide_eq_true (by omega)
      have HX2 : Hid ((xv, xe) = ((0 : Int), 4)) := by unfold Hid; rw [HX.out, if_pos h60]
      go_enter Tryz.func63, Tryz.ntmps63
      go_wp2_with fail
      go_ret2
      have hx := HX2.out
      simp only [Prod.mk.injEq] at hx
      obtain ⟨rfl, rfl⟩ := hx
      exact ⟨⟨0, rfl, fun h => by simp at h⟩, rfl⟩
    · have g1 : decide ((60 : Int) < (ds.length : Int)) = false := decide_eq_false (by omega)
      go_enter Tryz.func63, Tryz.ntmps63
      go_wp2_with fail
      go_loopw [5, 6] (fun v i wr => ∃ (n V : Nat), v = .int .u64 (V : Int) ∧ i = .int .i64 n ∧ n ≤ ds.length ∧ Hid (natB 10 (ds.take n) = V) ∧ (V : Int) ≤ 9223372036854775808 ∧ wr = w) (fun _ i _ => (100000 - intOf i).toNat)
      case atStart => exact ⟨0, 0, rfl, rfl, Nat.zero_le _, by unfold Hid; simp [natB], by omega, rfl⟩
      case round =>
        obtain ⟨n, V, rfl, rfl, hn, HV, hVL, rfl⟩ := hrel
        by_cases hlt : n < ds.length
        · obtain ⟨hp2, e4⟩ := HU.out.idx n hlt
          obtain ⟨d, hdd⟩ : ∃ d, ds[n] = d := ⟨_, rfl⟩
          rw [hdd] at e4
          have hdig := (isDig_iff d).1 (HD.out d (by rw [← hdd]; exact List.getElem_mem hlt))
          obtain ⟨D, hD⟩ : ∃ D : Nat, (d.toNat : Int) - 48 = (D : Int) := ⟨d.toNat - 48, by omega⟩
          have hDv : hexV d = D := by unfold hexV; rw [if_neg (by omega), if_neg (by omega)]; omega
          have j1 : (48 : Int) ≤ (d.toNat : Int) := by omega
          have j2 : (d.toNat : Int) ≤ 57 := by omega
          have hD9 : (D : Int) ≤ 9 := by omega
          obtain ⟨R, hR⟩ : ∃ R : Nat, (9223372036854775808 : Int) - (D : Int) = (R : Int) := ⟨9223372036854775808 - D, by omega⟩
          have hR2 : (R : Int) ≤ 9223372036854775808 := by omega
          obtain ⟨Q, hQ⟩ : ∃ Q : Nat, R / 10 = Q := ⟨_, rfl⟩
          have hQ2 : (Q : Int) ≤ 9223372036854775808 := by omega
          have fQ : (R : Int) / 10 = (Q : Int) := by omega
          obtain ⟨P, hP⟩ : ∃ P : Nat, V * 10 = P := ⟨_, rfl⟩
          have fP : (V : Int) * 10 = (P : Int) := by omega
          have hVQ : V ≤ Q ↔ P + D ≤ 9223372036854775808 := by omega
          have hNX : natB 10 (ds.take (n + 1)) = P + D := by rw [natB_take 10 ds n hlt, HV.out, hdd, hDv]; omega
          have hT1 : P + D ≤ T := by rw [← hNX]; exact HMo.out _
          have k1 : decide ((n : Int) < (ds.length : Int)) = true := decide_eq_true (by omega)
          have HNX := Lib.hid hNX
          have HVQ := Lib.hid hVQ
          have HT1 := Lib.hid hT1
          clear hdd hdig hDv hQ hP hNX hVQ hT1
          by_cases hle : V ≤ Q
          · have g2 : decide ((Q : Int) < (V : Int)) = false := decide_eq_false (by omega)
            have g3 : ¬ Q < V := by omega
            have hPD : (P : Int) + (D : Int) ≤ 9223372036854775808 := by have := HVQ.out.1 hle; omega
            clear hle
            go_wp2_with fail
            go_roundw
            case rel => exact ⟨n + 1, P + D, by go_num, by go_num, hlt, HNX, by omega, by first | rfl | trivial⟩
            case measure => simp [intOf]; omega
          · have g2 : decide ((Q : Int) < (V : Int)) = true := decide_eq_true (by omega)
            have g3 : Q < V := by omega
            have HR : Hid (9223372036854775808 < T) := by unfold Hid; have := HVQ.out; have := HT1.out; omega
            clear hle
            go_wp2_with fail
            go_ret2
            have hx := HX.out
            rw [if_neg h60, if_pos (by split <;> (have := HR.out; omega))] at hx
            simp only [Prod.mk.injEq] at hx
            obtain ⟨rfl, rfl⟩ := hx
            exact ⟨⟨0, rfl, fun h => by simp at h⟩, rfl⟩
        · have k1 : decide ((n : Int) < (ds.length : Int)) = false := decide_eq_false (by omega)
          have HTV : Hid (T = V) := by unfold Hid; rw [← HV.out, List.take_of_length_le (by omega)]; exact hT.out.symm
          have hx := HX.out
          rw [if_neg h60, HTV.out] at hx
          have HX3 := Lib.hid hx
          obtain ⟨VI, hVI⟩ : ∃ VI : Int, (V : Int) = VI := ⟨_, rfl⟩
          have hV0 : 0 ≤ VI := by omega
          rw [hVI] at hVL ⊢
          have HVI := Lib.hid hVI
          obtain ⟨Z, Y, X1, h1, h2, h3, h4⟩ : ∃ Z Y X1, IntKind.u64.wrap (VI - 1) = Z ∧ IntKind.i64.wrap Z = Y ∧ IntKind.i64.wrap (-Y) = X1 ∧ IntKind.i64.wrap (X1 - 1) = -VI := by
            refine ⟨_, _, _, rfl, rfl, rfl, ?_⟩
            rw [IntKind.wrap_u64, IntKind.wrap_i64, IntKind.wrap_i64, IntKind.wrap_i64]
            omega
          clear hx h60 hVI
          first
            | (have HF : Hid (xv = -VI ∧ xe = 0) := by
                have hx := HX3.out
                have hv := HVI.out
                rw [if_neg (by simp; omega)] at hx
                simp only [Prod.mk.injEq, if_true, hv] at hx
                exact hx
               go_wp2_with fail
               go_ret2
               obtain ⟨rfl, rfl⟩ := HF.out
               exact ⟨⟨_, rfl, fun _ => rfl⟩, rfl⟩)
            | (by_cases hbig : (9223372036854775807 : Int) < VI
               · have q1 : decide ((9223372036854775807 : Int) < VI) = true := decide_eq_true hbig
                 have HF : Hid (xv = 0 ∧ xe = 5) := by
                   have hx := HX3.out
                   have hv := HVI.out
                   rw [if_pos (by simp; omega)] at hx
                   simp only [Prod.mk.injEq] at hx
                   exact hx
                 go_wp2_with fail
                 go_ret2
                 obtain ⟨rfl, rfl⟩ := HF.out
                 exact ⟨⟨0, rfl, fun h => by simp at h⟩, rfl⟩
               · have q1 : decide ((9223372036854775807 : Int) < VI) = false := decide_eq_false hbig
                 have hV2 : VI ≤ 9223372036854775807 := by omega
                 have HF : Hid (xv = VI ∧ xe = 0) := by
                   have hx := HX3.out
                   have hv := HVI.out
                   rw [if_neg (by simp; omega)] at hx
                   simp only [Prod.mk.injEq] at hx
                   exact ⟨by rw [← hv]; simpa using hx.1, hx.2⟩
                 clear hbig h1 h2 h3 h4
                 go_wp2_with fail
                 go_ret2
                 obtain ⟨rfl, rfl⟩ := HF.out
                 exact ⟨⟨_, rfl, fun _ => rfl⟩, rfl⟩)
end Go.Proofs.YtpaacfoiiihbeaaGreat

-- RlxF
set_option linter.unusedVariables false
set_option linter.unusedSimpArgs false
namespace Go.Proofs.YtpaacfoiiihbeaaGreat
open Go.RowKit

/-- what a function of the document's lexer hands back that cuts a word -/
def WordR (e' : Ending) (b : Nat) (s : ByteArray) (o : Nat) (W : Nat × Nat × TokV × Nat) (w w' : World) : Prop :=
  ∃ k t v d p, e' = .returned (.agg #[.int .i64 k, .string t, .int .i64 v, .int .u64 d, .int .i64 p]) ∧
    ∃ i', Lxb w' b s i' W.1 (if W.1 = 0 then 0 else o + W.2.1) ∧ (W.1 = 0 → #[.int .i64 k, .string t, .int .i64 v, .int .u64 d, .int .i64 p] = tokC { W.2.2.1 with p := o } ∧ i' = o + W.2.2.2) ∧ Oth b w w'

theorem isNm_iff (c : UInt8) : isNmS c = (isLtS c || isDig c || decide (c.toNat = 46)) := by
  unfold isNmS isLtS
  cases isLetS c <;> cases isDig c <;> simp
theorem dotBad_step (l : List UInt8) (i : Nat) (hi : i < l.length) : dotBad (l.drop i) = (decide (l[i].toNat = 46) && ((l.drop (i + 1)).isEmpty || decide ((l.drop (i + 1)).head? = some 46)) || dotBad (l.drop (i + 1))) := by
  rw [List.drop_eq_getElem_cons hi]
  rfl

theorem Blk.oth5 {w : World} {B g k : Nat} {cs : Array Value} {T : TypeId} {v0 v1 v2 v3 v4 : Value} (h : Blk w B g cs T) (hk : k ≠ g) :
    Blk (((((w.setCell ⟨k, 0, none⟩ v0).setCell ⟨k, 1, none⟩ v1).setCell ⟨k, 2, none⟩ v2).setCell ⟨k, 3, none⟩ v3).setCell ⟨k, 4, none⟩ v4) B g cs T :=
  ((((h.other hk _ _).other hk _ _).other hk _ _).other hk _ _).other hk _ _

set_option maxRecDepth 100000 in
set_option maxHeartbeats 12800000 in
theorem refName_any (b : Nat) (s : ByteArray) (l : List UInt8) (o : Nat) (w : World) (hB : Lxb w b s o 0 0) (hl : Tx s l) (ho : o ≤ l.length) (hs : (l.length : Int) ≤ 8000) :
    Calls Tryz.prog 31 #[.pointer (some ⟨b, 0, none⟩)] w fun e' w' => WordR e' b s o ((nameS (l.drop o)).1, 0, (nameS (l.drop o)).2) w w' := by
  have hz : (s.size : Int) = (l.length : Int) := by rw [hl.size]
  obtain ⟨g, hg⟩ : ∃ g, w.heap.size = g := ⟨_, rfl⟩
  have hbg : b < g := by rw [← hg]; exact hB.lt
  have hT0 := Blk.new w #[.int .i64 0, .string ⟨#[]⟩, .int .i64 0, .int .u64 0, .int .i64 0] 44
  rw [hg] at hT0
  have hN0 : Nx w (w.alloc (Obj.cells #[.int .i64 0, .string ⟨#[]⟩, .int .i64 0, .int .u64 0, .int .i64 0] 44)) := nx0 _ _
  have HL := Lib.hid hl
  have HB0 : Hid (Lxb (w.alloc (Obj.cells #[.int .i64 0, .string ⟨#[]⟩, .int .i64 0, .int .u64 0, .int .i64 0] 44)) b s o 0 0) := hB.below hN0
  obtain ⟨N, hN⟩ : ∃ N, Hid (spanN isNmS (l.drop o) = N) := ⟨_, rfl⟩
  have hNl : o + N ≤ l.length := by
    have := spanN_le isNmS (l.drop o)
    rw [hN.out, List.length_drop] at this; omega
  obtain ⟨T, hT⟩ : ∃ T, Hid ((l.drop o).take N = T) := ⟨_, rfl⟩
  have hTl : T.length = N := by rw [← hT.out]; simp; omega
  obtain ⟨X, hX⟩ : ∃ X, Hid (nameS (l.drop o) = X) := ⟨_, rfl⟩
  have HX : Hid (X = if 120 < N then (4, tok0, 0) else if dotBad T then (2, tok0, 0) else (0, ⟨1, T, 0, 0, 0⟩, N)) := by
    unfold Hid; rw [← hX.out]; unfold nameS; rw [hN.out, hT.out]
  rw [hX.out]
  obtain ⟨u, hu, HU⟩ := hl.mid o (o + N)
  have HU2 : Hid (Tx u T) := by
    have h := HU.out
    rw [List.drop_take, show o + N - o = N by omega, hT.out] at h
    exact h
  clear hl hB HU
  go_enter Tryz.func31, Tryz.ntmps31
  obtain ⟨c0, c1, c2, c3, f0, f1, f2, f3⟩ := Lxb.cells HB0.out
  go_upto_block 0 with fail
  generalize hW1 : World.alloc _ _ = w1 at *
  clear hW1 c0 c1 c2 c3 f0 f1 f2 f3
  have HT0 := Lib.hid hT0
  clear hT0
  go_cut [] (fun wx => Lxb wx b s (o + N) 0 0 ∧ Oth b w1 wx)
  case first =>
   go_wp2_with fail
   go_loopw [] (fun wx => ∃ m : Nat, Lxb wx b s (o + m) 0 0 ∧ m ≤ N ∧ Oth b w1 wx) (fun wx => 10000 - atL b wx)
   case atStart => exact ⟨0, HB0.out, Nat.zero_le _, Oth.refl _ _⟩
   case round =>
     obtain ⟨m, hCm, hmN, hOm⟩ := hrel
     have hsp := span_at isNmS (l.drop o) m (by rw [hN.out]; exact hmN)
     rw [hN.out, List.drop_drop] at hsp
     obtain ⟨K, hK⟩ : ∃ K, o + m = K := ⟨_, rfl⟩
     rw [hK] at hCm hsp
     have hat := Lxb.at_ hCm
     have HCm := Lib.hid hCm
     have HOm := Lib.hid hOm
     obtain ⟨c0, c1, c2, c3, f0, f1, f2, f3⟩ := Lxb.cells hCm
     clear hCm hOm
     by_cases hlt : m < N
     · obtain ⟨d, t, hd, hdp⟩ := hsp.1 hlt
       obtain ⟨h2l, h2s, h2c⟩ := HL.out.byte K d t hd
       have k1 : decide ((K : Int) < (l.length : Int)) = true := decide_eq_true (by omega)
       have k2 : (K : Int) < (s.size : Int) := by omega
       have k4 : (K : Int) ≤ 8000 := by omega
       rw [isNm_iff] at hdp
       have hdg := fun w => refDigit_any d w
       have hlg := fun w => refLetter_any d w
       generalize isLtS d = BL at *
       generalize isDig d = BD at *
       have h3 : BL = true ∨ BL = false ∧ BD = true ∨ BL = false ∧ BD = false ∧ ((d.toNat : Int) == 46) = true := by
         cases BL
         · cases BD
           · right; right
             refine ⟨rfl, rfl, ?_⟩
             simp at hdp
             rw [beq_iff_eq]; omega
           · exact .inr (.inl ⟨rfl, rfl⟩)
         · exact .inl rfl
       clear hsp hd hdp
       rcases h3 with rfl | ⟨rfl, rfl⟩ | ⟨rfl, rfl, b46⟩
       all_goals
         go_wp2_with fail
         go_quiet (first | exact Calls.quiet_of_same (hlg _) | exact Calls.quiet_of_same (hdg _))
         generalize hW : World.drewN _ _ = w3
         have HC3 : Hid (Lxb w3 b s K 0 0) := by rw [← hW]; exact HCm.out.drew _
         have HO3 : Hid (Oth b w1 w3) := by rw [← hW]; exact HOm.out.trans (Oth.nx ((Nx.refl _).dr _))
         clear hW c0 c1 c2 c3 f0 f1 f2 f3
         obtain ⟨c0, c1, c2, c3, f0, f1, f2, f3⟩ := Lxb.cells HC3.out
         go_wp2_with fail
         have ek : (K : Int) + 1 = ((K + 1 : Nat) : Int) := by omega
         go_roundw
         case rel =>
           rw [ek]
           refine ⟨m + 1, ?_, hlt, HO3.out.own⟩
           rw [show o + (m + 1) = K + 1 by omega]
           exact HC3.out.put1 _
         case measure =>
           rw [ek, (HC3.out.put1 (K + 1)).at_, hat]
           omega
     · obtain rfl : m = N := by omega
       have hend := hsp.2 rfl
       have hk : decide ((K : Int) < (l.length : Int)) = false ∧ ¬ K < l.length ∨ ∃ (hp : K < s.size) (d : UInt8), decide ((K : Int) < (l.length : Int)) = true ∧ K < l.length ∧ (K : Int) < (s.size : Int) ∧ s[K]'hp = d ∧ isLtS d = false ∧ isDig d = false ∧ ((d.toNat : Int) == 46) = false := by
         rcases hend with h | ⟨d, t, h, hd⟩
         · rw [List.drop_eq_nil_iff] at h
           exact .inl ⟨decide_eq_false (by omega), by omega⟩
         · obtain ⟨h2l, h2s, h2c⟩ := HL.out.byte K d t h
           rw [isNm_iff] at hd
           simp at hd
           exact .inr ⟨h2s, d, decide_eq_true (by omega), h2l, by omega, h2c, hd.1.1, hd.1.2, by rw [beq_eq_false_iff_ne]; omega⟩
       clear hend hsp hlt
       rcases hk with ⟨k1, k2⟩ | ⟨h2s, d, k1, k0, k2, k3, hbl, hbd, b46⟩
       · go_wp2_with fail
         go_quiet (fail)
         go_wp2_with fail
         go_meet
         case rel => exact ⟨by rw [hK]; exact HCm.out.drew _, HOm.out.trans (Oth.nx ((Nx.refl _).dr _))⟩
       · have hdg := fun w => refDigit_any d w
         have hlg := fun w => refLetter_any d w
         rw [hbd] at hdg
         rw [hbl] at hlg
         go_wp2_with fail
         go_quiet (first | exact Calls.quiet_of_same (hlg _) | exact Calls.quiet_of_same (hdg _))
         go_wp2_with fail
         go_meet
         case rel => exact ⟨by rw [hK]; exact HCm.out.drew _, HOm.out.trans (Oth.nx ((Nx.refl _).dr _))⟩
  case rest =>
    obtain ⟨hCn, hOn⟩ := hcut
    obtain ⟨K, hK⟩ : ∃ K, o + N = K := ⟨_, rfl⟩
    rw [hK] at hCn hu hNl
    have HCn := Lib.hid hCn
    have HOn := Lib.hid hOn
    obtain ⟨c0, c1, c2, c3, f0, f1, f2, f3⟩ := Lxb.cells hCn
    have i1 : (o : Int) ≤ (K : Int) := by omega
    have i2 : (K : Int) ≤ (s.size : Int) := by omega
    have i3 : (K : Int) ≤ 8000 := by omega
    have hus : (u.size : Int) = (N : Int) := by rw [HU2.out.size, hTl]
    clear hCn hOn
    go_wp2_with fail
    go_quiet (fail)
    generalize hW : World.drewN _ _ = w3
    have HC3 : Hid (Lxb w3 b s K 0 0) := by rw [← hW]; exact HCn.out.drew _
    have HO3 : Hid (Oth b w1 w3) := by rw [← hW]; exact HOn.out.trans (Oth.nx ((Nx.refl _).dr _))
    have HT3 : Hid (Blk w3 g g #[.int .i64 0, .string ⟨#[]⟩, .int .i64 0, .int .u64 0, .int .i64 0] 44) := HO3.out.blk HT0.out (by omega)
    have HOw : Hid (Oth b w w3) := Oth.mono HO3.out hN0
    clear hW c0 c1 c2 c3 f0 f1 f2 f3
    have hgw : w.heap.size ≤ g := by omega
    by_cases h120 : 120 < N
    · have g1 : decide ((120 : Int) < (N : Int)) = true := decide_eq_true (by omega)
      have HX2 : Hid (X = (4, tok0, 0)) := by unfold Hid; rw [HX.out, if_pos h120]
      go_wp2_with fail
      refine (fail_any b s K 0 0 4 o _ HC3.out).mono ?_; rintro e w4 ⟨rfl, hC4, hO4⟩
      have HT4 := hO4.blk HT3.out (by omega)
      have hOw4 := HOw.out.trans hO4
      have HC4 := Lib.hid hC4
      obtain ⟨c0, c1, c2, c3, c4, f0, f1, f2, f3, f4⟩ := cells5 HT4
      go_wp2_with fail
      refine bodyPost_ret (results_cell_row rfl _ _ g _ _ _ _ rfl HT4.put5.2 Tryz.underlying44 rfl (by kernel_rfl)) rfl ?_
      rw [HX2.out]
      exact ⟨_, _, _, _, _, rfl, K, Blk.oth5 HC4.out (by omega), fun h => by simp at h, hOw4.put5 hgw⟩
    · have g1 : decide ((120 : Int) < (N : Int)) = false := decide_eq_false (by omega)
      have g1' : ¬ 120 < N := h120
      have HX2 : Hid (X = if dotBad T then (2, tok0, 0) else (0, ⟨1, T, 0, 0, 0⟩, N)) := by unfold Hid; rw [HX.out, if_neg h120]
      go_wp2_with fail
      go_loopw [5] (fun iv wx => ∃ (i : Nat) (fd : Bool), iv = .int .i64 i ∧ i ≤ N ∧ Lxb wx b s K (if fd then 2 else 0) (if fd then o else 0) ∧ Hid (dotBad T = (fd || dotBad (T.drop i))) ∧ Oth b w3 wx) (fun iv _ => (10000 - intOf iv).toNat)
      case atStart => exact ⟨0, false, rfl, Nat.zero_le _, HC3.out, by unfold Hid; simp, Oth.refl _ _⟩
      case round =>
        obtain ⟨i, fd, rfl, hi, hCi, HDB, hOi⟩ := hrel
        have hst : Hid (∀ h : i < T.length, dotBad (T.drop i) = (decide (T[i].toNat = 46) && ((T.drop (i + 1)).isEmpty || decide ((T.drop (i + 1)).head? = some 46)) || dotBad (T.drop (i + 1)))) := fun h => dotBad_step T i h
        have HCi := Lib.hid hCi
        have HOi := Lib.hid hOi
        have hiI : (i : Int) ≤ 8000 := by omega
        clear hCi hOi
        by_cases hlt : i < N
        · have hiT : i < T.length := by omega
          obtain ⟨hp, e0⟩ := HU2.out.idx i hiT
          obtain ⟨d, hd⟩ : ∃ d, T[i] = d := ⟨_, rfl⟩
          have hst2 := hst.out hiT
          rw [hd] at e0 hst2
          have HST := Lib.hid hst2
          have k1 : decide ((i : Int) < (N : Int)) = true := decide_eq_true (by omega)
          have k2 : (i : Int) < (u.size : Int) := by omega
          clear hst hst2 hd
          have hB46 : (((d.toNat : Int) == 46) = false ∧ decide (d.toNat = 46) = false) ∨ (((d.toNat : Int) == 46) = true ∧ decide (d.toNat = 46) = true) := by
            by_cases h : d.toNat = 46
            · exact .inr ⟨by rw [beq_iff_eq]; omega, decide_eq_true h⟩
            · exact .inl ⟨by rw [beq_eq_false_iff_ne]; omega, decide_eq_false h⟩
          rcases hB46 with ⟨b46, q46⟩ | ⟨b46, q46⟩
          · have HN2 : Hid (dotBad T = (fd || dotBad (T.drop (i + 1)))) := by unfold Hid; rw [HDB.out, HST.out, q46]; simp
            clear q46
            go_wp2_with fail
            go_roundw
            case rel => exact ⟨i + 1, fd, by go_num, hlt, HCi.out, HN2, HOi.out⟩
            case measure => simp [intOf]; omega
          · -- a full stop: what stands behind it
            have hnx : (((i : Int) == (N : Int) - 1) = true ∧ ((T.drop (i + 1)).isEmpty || decide ((T.drop (i + 1)).head? = some 46)) = true) ∨
                (((i : Int) == (N : Int) - 1) = false ∧ ∃ (hp2 : i + 1 < u.size) (d2 : UInt8), (i : Int) + 1 < (u.size : Int) ∧ u[i + 1]'hp2 = d2 ∧ ((T.drop (i + 1)).isEmpty || decide ((T.drop (i + 1)).head? = some 46)) = ((d2.toNat : Int) == 46)) := by
              by_cases hl : i + 1 = N
              · left
                refine ⟨by rw [beq_iff_eq]; omega, ?_⟩
                rw [List.drop_eq_nil_iff.2 (by omega)]; rfl
              · right
                have h2 : i + 1 < T.length := by omega
                obtain ⟨hp2, e2⟩ := HU2.out.idx (i + 1) h2
                refine ⟨by rw [beq_eq_false_iff_ne]; omega, hp2, T[i + 1], by omega, e2, ?_⟩
                rw [List.drop_eq_getElem_cons h2]
                simp only [List.isEmpty_cons, Bool.false_or, List.head?_cons, Option.some.injEq]
                rw [Bool.eq_iff_iff, decide_eq_true_iff, beq_iff_eq]
                constructor
                · intro h; rw [h]; rfl
                · intro h; apply UInt8.toNat_inj.1; have : T[i + 1].toNat = 46 := by omega
                  rw [this]; rfl
            obtain ⟨B, hB⟩ : ∃ B, ((T.drop (i + 1)).isEmpty || decide ((T.drop (i + 1)).head? = some 46)) = B := ⟨_, rfl⟩
            have HN2 : Hid (dotBad T = (fd || (B || dotBad (T.drop (i + 1))))) := by unfold Hid; rw [HDB.out, HST.out, q46, hB, Bool.true_and]
            rw [hB] at hnx
            have hnx2 : (((i : Int) == (N : Int) - 1) = true ∧ B = true) ∨ (((i : Int) == (N : Int) - 1) = false ∧ ∃ (hp2 : i + 1 < u.size) (d2 : UInt8), (i : Int) + 1 < (u.size : Int) ∧ u[i + 1]'hp2 = d2 ∧ ((d2.toNat : Int) == 46) = B) := by
              rcases hnx with h | ⟨h, hp2, d2, h1, h2, h3⟩
              · exact .inl h
              · exact .inr ⟨h, hp2, d2, h1, h2, h3.symm⟩
            clear hnx q46 hB
            rcases hnx2 with ⟨n1, rfl⟩ | ⟨n1, hp2, d2, n2, n3, n4⟩
            · go_wp2_with fail
              refine (fail_any b s K _ _ 2 o _ HCi.out).mono ?_; rintro e w4 ⟨rfl, hC4, hO4⟩
              have HC4 := Lib.hid hC4
              have HO4 := Lib.hid hO4
              clear hC4 hO4
              go_wp2_with fail
              go_roundw
              case rel => exact ⟨i + 1, true, by go_num, hlt, HC4.out, by unfold Hid; rw [HN2.out]; simp, HOi.out.trans HO4.out⟩
              case measure => simp [intOf]; omega
            · cases B
              · go_wp2_with fail
                go_roundw
                case rel => exact ⟨i + 1, fd, by go_num, hlt, HCi.out, by unfold Hid; rw [HN2.out, Bool.false_or], HOi.out⟩
                case measure => simp [intOf]; omega
              · go_wp2_with fail
                refine (fail_any b s K _ _ 2 o _ HCi.out).mono ?_; rintro e w4 ⟨rfl, hC4, hO4⟩
                have HC4 := Lib.hid hC4
                have HO4 := Lib.hid hO4
                clear hC4 hO4
                go_wp2_with fail
                go_roundw
                case rel => exact ⟨i + 1, true, by go_num, hlt, HC4.out, by unfold Hid; rw [HN2.out]; simp, HOi.out.trans HO4.out⟩
                case measure => simp [intOf]; omega
        · have HF : Hid (dotBad T = fd) := by
            unfold Hid; rw [HDB.out, List.drop_eq_nil_iff.2 (by omega)]; simp [dotBad]
          have k1 : decide ((i : Int) < (N : Int)) = false := decide_eq_false (by omega)
          have k1' : ¬ i < N := hlt
          have HT5 : Hid (Blk wr g g #[.int .i64 0, .string ⟨#[]⟩, .int .i64 0, .int .u64 0, .int .i64 0] 44) := HOi.out.blk HT3.out (by omega)
          have hOw5 := HOw.out.trans HOi.out
          obtain ⟨c0, c1, c2, c3, c4, f0, f1, f2, f3, f4⟩ := cells5 HT5.out
          clear hst
          go_wp2_with fail
          refine bodyPost_ret (results_cell_row rfl _ _ g _ _ _ _ rfl HT5.out.put5.2 Tryz.underlying44 rfl (by kernel_rfl)) rfl ?_
          have hx := HX2.out
          rw [HF.out] at hx
          have hC := HCi.out
          cases fd
          · rw [if_neg (by simp)] at hx
            rw [hx]
            refine ⟨_, _, _, _, _, rfl, K, Blk.oth5 hC (by omega), fun _ => ⟨?_, hK.symm⟩, hOw5.put5 hgw⟩
            rw [HU2.out.eq]; rfl
          · rw [if_pos rfl] at hx
            rw [hx]
            exact ⟨_, _, _, _, _, rfl, K, Blk.oth5 hC (by omega), fun h => by simp at h, hOw5.put5 hgw⟩
end Go.Proofs.YtpaacfoiiihbeaaGreat

-- RlxG
set_option linter.unusedVariables false
set_option linter.unusedSimpArgs false
namespace Go.Proofs.YtpaacfoiiihbeaaGreat
open Go.RowKit

/-- a letter, a _ or a full stop -/
def gosR : List UInt8 → Bool
  | [] => false
  | c :: _ => isLtS c || decide (c.toNat = 46)

set_option maxRecDepth 100000 in
set_option maxHeartbeats 6400000 in
theorem behind_any (b : Nat) (s : ByteArray) (l : List UInt8) (o i : Nat) (k v : Int) (t : ByteArray) (d E : Nat) (w : World) (hB : Lxb w b s i 0 0) (hl : Tx s l) (hi : i ≤ l.length) (hs : (l.length : Int) ≤ 8000) :
    Calls Tryz.prog 65 #[.pointer (some ⟨b, 0, none⟩), .agg #[.int .i64 k, .string t, .int .i64 v, .int .u64 (d : Int), .int .i64 (o : Int)], .int .i64 (E : Int)] w fun e' w' =>
      e' = .returned (.agg #[.int .i64 k, .string t, .int .i64 v, .int .u64 (d : Int), .int .i64 (o : Int)]) ∧
      Lxb w' b s i (if E ≠ 0 then E else if gosR (l.drop i) then 2 else 0) (if E ≠ 0 then o else if gosR (l.drop i) then i else 0) ∧ Oth b w w' := by
  have hz : (s.size : Int) = (l.length : Int) := by rw [hl.size]
  have HL := Lib.hid hl
  obtain ⟨g, hg⟩ : ∃ g, w.heap.size = g := ⟨_, rfl⟩
  have hbg : b < g := by rw [← hg]; exact hB.lt
  obtain ⟨G, hG⟩ : ∃ G, Hid (gosR (l.drop i) = G) := ⟨_, rfl⟩
  rw [hG.out]
  have HB := Lib.hid hB
  obtain ⟨c0, c1, c2, c3, f0, f1, f2, f3⟩ := Lxb.cells hB
  clear hl hB
  have hcase : (∃ (c : UInt8) (hp : i < s.size), decide ((i : Int) < (l.length : Int)) = true ∧ i < l.length ∧ (i : Int) < (s.size : Int) ∧ s[i]'hp = c ∧ (isLtS c || decide (c.toNat = 46)) = G) ∨ (decide ((i : Int) < (l.length : Int)) = false ∧ ¬ i < l.length ∧ G = false) := by
    rcases Nat.lt_or_ge i l.length with h | h
    · left
      obtain ⟨h1, hp, e⟩ := HL.out.byte i l[i] _ (List.drop_eq_getElem_cons h)
      refine ⟨l[i], hp, decide_eq_true (by omega), h, by omega, e, ?_⟩
      rw [← hG.out, List.drop_eq_getElem_cons h]; rfl
    · right
      refine ⟨decide_eq_false (by omega), by omega, ?_⟩
      have := hG.out
      rw [List.drop_eq_nil_iff.2 h] at this
      exact this.symm
  have fin : ∀ (w1 w2 : World) (i2 e2 a2 : Nat), Hid (Blk w1 g (g + 1) #[.int .i64 0, .string ⟨#[]⟩, .int .i64 0, .int .u64 0, .int .i64 0] 44) → Hid (Lxb w1 b s i2 e2 a2) → Oth b w w1 → 
      w2 = (((((w1.setCell ⟨g + 1, 0, none⟩ (.int .i64 k)).setCell ⟨g + 1, 1, none⟩ (.string t)).setCell ⟨g + 1, 2, none⟩ (.int .i64 v)).setCell ⟨g + 1, 3, none⟩ (.int .u64 (d : Int))).setCell ⟨g + 1, 4, none⟩ (.int .i64 (o : Int))) →
      Blk w2 g (g + 1) #[.int .i64 k, .string t, .int .i64 v, .int .u64 (d : Int), .int .i64 (o : Int)] 44 ∧ Lxb w2 b s i2 e2 a2 ∧ Oth b w w2 := by
    rintro w1 w2 i2 e2 a2 h1 h2 h3 rfl
    exact ⟨h1.out.put5, Blk.oth5 h2.out (by omega), h3.put5 (by omega)⟩
  have FIN := Lib.hid fin
  clear fin
  by_cases hE : E = 0
  · subst hE
    rw [if_neg (show ¬ ((0 : Nat) ≠ 0) from fun h => h rfl), if_neg (show ¬ ((0 : Nat) ≠ 0) from fun h => h rfl)]
    have hc2 : ((∃ (c : UInt8) (hp : i < s.size), decide ((i : Int) < (l.length : Int)) = true ∧ i < l.length ∧ (i : Int) < (s.size : Int) ∧ s[i]'hp = c ∧ (isLtS c = true ∨ isLtS c = false ∧ ((c.toNat : Int) == 46) = true)) ∧ G = true) ∨
        ((∃ (c : UInt8) (hp : i < s.size), decide ((i : Int) < (l.length : Int)) = true ∧ i < l.length ∧ (i : Int) < (s.size : Int) ∧ s[i]'hp = c ∧ isLtS c = false ∧ ((c.toNat : Int) == 46) = false) ∧ G = false) ∨
        (decide ((i : Int) < (l.length : Int)) = false ∧ ¬ i < l.length ∧ G = false) := by
      rcases hcase with ⟨c, hp, k1, k2, k3, k4, k5⟩ | h
      · cases hL : isLtS c
        · rw [hL, Bool.false_or] at k5
          by_cases h46 : c.toNat = 46
          · rw [decide_eq_true h46] at k5
            exact .inl ⟨⟨c, hp, k1, k2, k3, k4, .inr ⟨hL, by rw [beq_iff_eq]; omega⟩⟩, k5.symm⟩
          · rw [decide_eq_false h46] at k5
            exact .inr (.inl ⟨⟨c, hp, k1, k2, k3, k4, hL, by rw [beq_eq_false_iff_ne]; omega⟩, k5.symm⟩)
        · rw [hL, Bool.true_or] at k5
          exact .inl ⟨⟨c, hp, k1, k2, k3, k4, .inl hL⟩, k5.symm⟩
      · exact .inr (.inr h)
    clear hcase
    rcases hc2 with ⟨⟨c, hp, k1, k2, k3, k4, hb⟩, rfl⟩ | ⟨⟨c, hp, k1, k2, k3, k4, hL, b46⟩, rfl⟩ | ⟨k1, k2, rfl⟩
    · rcases hb with hL | ⟨hL, b46⟩
      all_goals
        have hlg := fun w => refLetter_any c w
        rw [hL] at hlg
        go_enter Tryz.func65, Tryz.ntmps65
        go_wp2_with fail
        go_quiet (exact Calls.quiet_of_same (hlg _))
        generalize hW : World.drewN (World.alloc (World.alloc _ _) _) _ = w1
        have hA : Hid (Blk w1 g g #[.int .i64 k, .string t, .int .i64 v, .int .u64 (d : Int), .int .i64 (o : Int)] 44) := by rw [← hW, ← hg]; exact ((Blk.new w _ _).alloc _).drew _
        have hT : Hid (Blk w1 g (g + 1) #[.int .i64 0, .string ⟨#[]⟩, .int .i64 0, .int .u64 0, .int .i64 0] 44) := by
          rw [← hW, ← hg, show w.heap.size + 1 = (w.alloc (.cells #[.int .i64 k, .string t, .int .i64 v, .int .u64 (d : Int), .int .i64 (o : Int)] 44)).heap.size from by simp]
          exact ((Blk.new (w.alloc _) _ _).less (by simp)).drew _
        have hBW : Hid (Lxb w1 b s i 0 0) := by rw [← hW]; exact ((HB.out.alloc _).alloc _).drew _
        have hOW : Hid (Oth b w w1) := by rw [← hW]; exact Oth.nx (Nx.dr (nxa (nx0 w _) _) _)
        clear hW c0 c1 c2 c3 f0 f1 f2 f3
        obtain ⟨c0, c1, c2, c3, f0, f1, f2, f3⟩ := Lxb.cells hBW.out
        go_wp2_with fail
        refine (fail_any b s i 0 0 2 i _ hBW.out).mono ?_; rintro e w2 ⟨rfl, hC2, hO2⟩
        clear c0 c1 c2 c3 f0 f1 f2 f3
        have hA2 := hO2.blk hA.out (by omega)
        have hT2 := Lib.hid (hO2.blk hT.out (by omega))
        have HC2 := Lib.hid hC2
        have HO2 := Lib.hid (hOW.out.trans hO2)
        obtain ⟨c0, c1, c2, c3, c4, -⟩ := cells5 hA2
        obtain ⟨e0, e1, e2, e3, e4, f0, f1, f2, f3, f4⟩ := cells5 hT2.out
        clear hC2 hO2 hA2
        go_wp2_with fail
        obtain ⟨r1, r2, r3⟩ := FIN.out w2 _ _ _ _ hT2 HC2 HO2.out rfl
        refine bodyPost_ret (results_cell_row rfl _ _ (g + 1) _ _ _ _ rfl r1.2 Tryz.underlying44 rfl (by kernel_rfl)) rfl ?_
        exact ⟨rfl, r2, r3⟩
    · have hlg := fun w => refLetter_any c w
      rw [hL] at hlg
      go_enter Tryz.func65, Tryz.ntmps65
      go_wp2_with fail
      go_quiet (exact Calls.quiet_of_same (hlg _))
      generalize hW : World.drewN (World.alloc (World.alloc _ _) _) _ = w1
      have hA : Hid (Blk w1 g g #[.int .i64 k, .string t, .int .i64 v, .int .u64 (d : Int), .int .i64 (o : Int)] 44) := by rw [← hW, ← hg]; exact ((Blk.new w _ _).alloc _).drew _
      have hT : Hid (Blk w1 g (g + 1) #[.int .i64 0, .string ⟨#[]⟩, .int .i64 0, .int .u64 0, .int .i64 0] 44) := by
        rw [← hW, ← hg, show w.heap.size + 1 = (w.alloc (.cells #[.int .i64 k, .string t, .int .i64 v, .int .u64 (d : Int), .int .i64 (o : Int)] 44)).heap.size from by simp]
        exact ((Blk.new (w.alloc _) _ _).less (by simp)).drew _
      have hBW : Hid (Lxb w1 b s i 0 0) := by rw [← hW]; exact ((HB.out.alloc _).alloc _).drew _
      have hOW : Hid (Oth b w w1) := by rw [← hW]; exact Oth.nx (Nx.dr (nxa (nx0 w _) _) _)
      clear hW c0 c1 c2 c3 f0 f1 f2 f3
      obtain ⟨c0, c1, c2, c3, c4, -⟩ := cells5 hA.out
      obtain ⟨e0, e1, e2, e3, e4, f0, f1, f2, f3, f4⟩ := cells5 hT.out
      go_wp2_with fail
      obtain ⟨r1, r2, r3⟩ := FIN.out w1 _ _ _ _ hT hBW hOW.out rfl
      refine bodyPost_ret (results_cell_row rfl _ _ (g + 1) _ _ _ _ rfl r1.2 Tryz.underlying44 rfl (by kernel_rfl)) rfl ?_
      exact ⟨rfl, r2, r3⟩
    · go_enter Tryz.func65, Tryz.ntmps65
      go_wp2_with fail
      go_quiet (fail)
      generalize hW : World.drewN (World.alloc (World.alloc _ _) _) _ = w1
      have hA : Hid (Blk w1 g g #[.int .i64 k, .string t, .int .i64 v, .int .u64 (d : Int), .int .i64 (o : Int)] 44) := by rw [← hW, ← hg]; exact ((Blk.new w _ _).alloc _).drew _
      have hT : Hid (Blk w1 g (g + 1) #[.int .i64 0, .string ⟨#[]⟩, .int .i64 0, .int .u64 0, .int .i64 0] 44) := by
        rw [← hW, ← hg, show w.heap.size + 1 = (w.alloc (.cells #[.int .i64 k, .string t, .int .i64 v, .int .u64 (d : Int), .int .i64 (o : Int)] 44)).heap.size from by simp]
        exact ((Blk.new (w.alloc _) _ _).less (by simp)).drew _
      have hBW : Hid (Lxb w1 b s i 0 0) := by rw [← hW]; exact ((HB.out.alloc _).alloc _).drew _
      have hOW : Hid (Oth b w w1) := by rw [← hW]; exact Oth.nx (Nx.dr (nxa (nx0 w _) _) _)
      clear hW c0 c1 c2 c3 f0 f1 f2 f3
      obtain ⟨c0, c1, c2, c3, c4, -⟩ := cells5 hA.out
      obtain ⟨e0, e1, e2, e3, e4, f0, f1, f2, f3, f4⟩ := cells5 hT.out
      go_wp2_with fail
      obtain ⟨r1, r2, r3⟩ := FIN.out w1 _ _ _ _ hT hBW hOW.out rfl
      refine bodyPost_ret (results_cell_row rfl _ _ (g + 1) _ _ _ _ rfl r1.2 Tryz.underlying44 rfl (by kernel_rfl)) rfl ?_
      exact ⟨rfl, r2, r3⟩
  · have b1 : ((E : Int) != 0) = true := by simp; omega
    rw [if_pos hE, if_pos hE]
    go_enter Tryz.func65, Tryz.ntmps65
    go_wp2_with fail
    generalize hW : World.alloc (World.alloc _ _) _ = w1
    have hA : Hid (Blk w1 g g #[.int .i64 k, .string t, .int .i64 v, .int .u64 (d : Int), .int .i64 (o : Int)] 44) := by rw [← hW, ← hg]; exact (Blk.new w _ _).alloc _
    have hT : Hid (Blk w1 g (g + 1) #[.int .i64 0, .string ⟨#[]⟩, .int .i64 0, .int .u64 0, .int .i64 0] 44) := by
      rw [← hW, ← hg, show w.heap.size + 1 = (w.alloc (.cells #[.int .i64 k, .string t, .int .i64 v, .int .u64 (d : Int), .int .i64 (o : Int)] 44)).heap.size from by simp]
      exact (Blk.new (w.alloc _) _ _).less (by simp)
    have hBW : Hid (Lxb w1 b s i 0 0) := by rw [← hW]; exact (HB.out.alloc _).alloc _
    have hOW : Hid (Oth b w w1) := by rw [← hW]; exact Oth.nx (nxa (nx0 w _) _)
    clear hW c0 c1 c2 c3 f0 f1 f2 f3
    refine (fail_any b s i 0 0 E o _ hBW.out).mono ?_; rintro e w2 ⟨rfl, hC2, hO2⟩
    have hA2 := hO2.blk hA.out (by omega)
    have hT2 := Lib.hid (hO2.blk hT.out (by omega))
    have HC2 := Lib.hid hC2
    have HO2 := Lib.hid (hOW.out.trans hO2)
    obtain ⟨c0, c1, c2, c3, c4, -⟩ := cells5 hA2
    obtain ⟨e0, e1, e2, e3, e4, f0, f1, f2, f3, f4⟩ := cells5 hT2.out
    clear hC2 hO2 hA2
    go_wp2_with fail
    obtain ⟨r1, r2, r3⟩ := FIN.out w2 _ _ _ _ hT2 HC2 HO2.out rfl
    refine bodyPost_ret (results_cell_row rfl _ _ (g + 1) _ _ _ _ rfl r1.2 Tryz.underlying44 rfl (by kernel_rfl)) rfl ?_
    exact ⟨rfl, r2, r3⟩
end Go.Proofs.YtpaacfoiiihbeaaGreat

-- RlxH
set_option linter.unusedVariables false
set_option linter.unusedSimpArgs false
namespace Go.Proofs.YtpaacfoiiihbeaaGreat
open Go.RowKit

theorem natB16_lt (l : List UInt8) (h : ∀ c ∈ l, isHexS c = true) : natB 16 l < 16 ^ l.length := by
  suffices hh : ∀ n, n ≤ l.length → natB 16 (l.take n) < 16 ^ n by
    have := hh l.length (Nat.le_refl _); rwa [List.take_length] at this
  intro n
  induction n with
  | zero => intro _; simp [natB]
  | succ n ih =>
    intro hn
    rw [natB_take 16 l n hn, Nat.pow_succ]
    have h1 := ih (by omega)
    have h2 := hexV_lt l[n] (h _ (List.getElem_mem hn))
    omega
theorem shl_or (V H : Nat) (hV : V < 18446744073709551616) (hH : H < 16) : bits .or .u64 (IntKind.u64.wrap ((V : Int) * 16)) (H : Int) = (((V * 16 + H) % 18446744073709551616 : Nat) : Int) := by
  have h1 : IntKind.u64.wrap ((V : Int) * 16) = (((V * 16) % 18446744073709551616 : Nat) : Int) := by rw [IntKind.wrap_u64]; omega
  rw [h1, bits_or_u64_nat _ _ (by omega) (by omega)]
  congr 1
  have h2 : (V * 16) % 18446744073709551616 = ((V * 16) % 18446744073709551616 / 16) * 2 ^ 4 := by omega
  have h3 : (V * 16 + H) % 18446744073709551616 = ((V * 16) % 18446744073709551616 / 16) * 2 ^ 4 + H := by omega
  rw [h3, h2]
  have h4 := Nat.two_pow_add_eq_or_of_lt (i := 4) (b := H) (by omega) ((V * 16) % 18446744073709551616 / 16)
  rw [Nat.mul_comm] at h4
  rw [Nat.mul_comm ((V * 16) % 18446744073709551616 / 16)] at *
  omega

theorem hexI_of (c : UInt8) : (isHexS c = true → hexI c = (hexV c : Nat) ∧ hexV c ≤ 15) ∧ (isHexS c = false → hexI c = -1) := by
  unfold hexI
  exact ⟨fun h => by rw [if_pos h]; exact ⟨rfl, hexV_lt c h⟩, fun h => by rw [if_neg (by rw [h]; decide)]⟩
/-- a number in sixteens: error, place, word, length -/
def sixW (ds : List UInt8) (go : Bool) : Nat × Nat × TokV × Nat :=
  if (hexS ds).2 ≠ 0 then ((hexS ds).2, 0, tok0, 0) else if go then (2, 2 + ds.length, tok0, 0) else (0, 0, ⟨2, [], (hexS ds).1, 0, 0⟩, 2 + ds.length)

set_option maxRecDepth 100000 in
set_option maxHeartbeats 12800000 in
theorem sixteen_any (b : Nat) (s : ByteArray) (l : List UInt8) (o : Nat) (w : World) (hB : Lxb w b s o 0 0) (hl : Tx s l) (ho : o + 2 ≤ l.length) (hs : (l.length : Int) ≤ 8000) :
    Calls Tryz.prog 60 #[.pointer (some ⟨b, 0, none⟩)] w fun e' w' =>
      WordR e' b s o (sixW ((l.drop (o + 2)).take (spanN isHexS (l.drop (o + 2)))) (gosR (l.drop (o + 2 + spanN isHexS (l.drop (o + 2)))))) w w' := by
  have hz : (s.size : Int) = (l.length : Int) := by rw [hl.size]
  have HL := Lib.hid hl
  obtain ⟨g, hg⟩ : ∃ g, w.heap.size = g := ⟨_, rfl⟩
  have hbg : b < g := by rw [← hg]; exact hB.lt
  obtain ⟨M, hM⟩ : ∃ M, Hid (spanN isHexS (l.drop (o + 2)) = M) := ⟨_, rfl⟩
  have hMl : o + 2 + M ≤ l.length := by
    have := spanN_le isHexS (l.drop (o + 2))
    rw [hM.out, List.length_drop] at this; omega
  rw [hM.out]
  obtain ⟨ds, hds⟩ : ∃ ds, Hid ((l.drop (o + 2)).take M = ds) := ⟨_, rfl⟩
  have hdl : ds.length = M := by rw [← hds.out]; simp; omega
  have hdx : Hid (∀ c ∈ ds, isHexS c = true) := by
    intro c hc
    rw [← hds.out, ← hM.out] at hc
    exact spanN_take isHexS _ c hc
  rw [hds.out]
  obtain ⟨go, hgo⟩ : ∃ go, Hid (gosR (l.drop (o + 2 + M)) = go) := ⟨_, rfl⟩
  rw [hgo.out]
  obtain ⟨X, hX⟩ : ∃ X, Hid (sixW ds go = X) := ⟨_, rfl⟩
  rw [hX.out]
  have HB := Lib.hid hB
  obtain ⟨c0, c1, c2, c3, f0, f1, f2, f3⟩ := Lxb.cells hB
  have ho8 : (o : Int) + 2 ≤ 8000 := by omega
  clear hl hB
  go_enter Tryz.func60, Tryz.ntmps60
  go_upto_block 0 with fail
  generalize hW : World.alloc (World.alloc _ _) _ = w1
  have hsz : (w.setCell ⟨b, 1, none⟩ (.int .i64 ((o : Int) + 2))).heap.size = g := by simp [World.setCell, hg]
  have hR1 : Hid (Blk w1 g g #[.int .i64 0, .string ⟨#[]⟩, .int .i64 0, .int .u64 0, .int .i64 0] 44) := by
    have h := Blk.new (w.setCell ⟨b, 1, none⟩ (.int .i64 ((o : Int) + 2))) #[.int .i64 0, .string ⟨#[]⟩, .int .i64 0, .int .u64 0, .int .i64 0] 44
    rw [hsz] at h
    rw [← hW]
    exact h.alloc _
  have hT1 : Hid (Blk w1 g (g + 1) #[.int .i64 2, .string ⟨#[]⟩, .int .i64 0, .int .u64 0, .int .i64 (o : Int)] 44) := by
    have h := Blk.new ((w.setCell ⟨b, 1, none⟩ (.int .i64 ((o : Int) + 2))).alloc (.cells #[.int .i64 0, .string ⟨#[]⟩, .int .i64 0, .int .u64 0, .int .i64 0] 44)) #[.int .i64 2, .string ⟨#[]⟩, .int .i64 0, .int .u64 0, .int .i64 (o : Int)] 44
    rw [show ((w.setCell ⟨b, 1, none⟩ (.int .i64 ((o : Int) + 2))).alloc (.cells #[.int .i64 0, .string ⟨#[]⟩, .int .i64 0, .int .u64 0, .int .i64 0] 44)).heap.size = g + 1 from by rw [← hsz]; simp] at h
    rw [← hW]
    exact h.less (by omega)
  clear hsz
  have hB1 : Hid (Lxb w1 b s (o + 2) 0 0) := by
    rw [← hW]
    have e : (o : Int) + 2 = ((o + 2 : Nat) : Int) := by omega
    rw [e]
    exact ((HB.out.put1 (o + 2)).alloc _).alloc _
  have hO1 : Hid (Oth b w w1) := by rw [← hW]; exact (Oth.set _ _ _ _).trans (Oth.nx (nxa (nx0 _ _) _))
  clear hW c0 c1 c2 c3 f0 f1 f2 f3
  go_cut [5] (fun vv wx => ∃ V : Nat, vv = .int .u64 (V : Int) ∧ Lxb wx b s (o + 2 + M) 0 0 ∧ Hid (V = natB 16 ds % 18446744073709551616) ∧ Oth b w1 wx)
  case first =>
    go_wp2_with fail
    go_loopw [5] (fun vv wx => ∃ m V : Nat, vv = .int .u64 (V : Int) ∧ Lxb wx b s (o + 2 + m) 0 0 ∧ m ≤ M ∧ Hid (V = natB 16 (ds.take m) % 18446744073709551616) ∧ Oth b w1 wx) (fun _ wx => 10000 - atL b wx)
    case atStart => exact ⟨0, 0, rfl, hB1.out, Nat.zero_le _, by unfold Hid; simp [natB], Oth.refl _ _⟩
    case round =>
      obtain ⟨m, V, rfl, hCm, hmM, HV, hOm⟩ := hrel
      have hVb : V < 18446744073709551616 := by rw [HV.out]; exact Nat.mod_lt _ (by decide)
      have hVI : (V : Int) ≤ 18446744073709551615 := by omega
      have hsp := span_at isHexS (l.drop (o + 2)) m (by rw [hM.out]; exact hmM)
      rw [hM.out, List.drop_drop] at hsp
      obtain ⟨K, hK⟩ : ∃ K, o + 2 + m = K := ⟨_, rfl⟩
      rw [hK] at hCm hsp
      have hat := Lxb.at_ hCm
      have HCm := Lib.hid hCm
      have HOm := Lib.hid hOm
      obtain ⟨c0, c1, c2, c3, f0, f1, f2, f3⟩ := Lxb.cells hCm
      clear hCm hOm
      by_cases hlt : m < M
      · obtain ⟨d, t, hd, hdp⟩ := hsp.1 hlt
        obtain ⟨h2l, h2s, h2c⟩ := HL.out.byte K d t hd
        have k1 : decide ((K : Int) < (l.length : Int)) = true := decide_eq_true (by omega)
        have k2 : (K : Int) < (s.size : Int) := by omega
        have k4 : (K : Int) ≤ 8000 := by omega
        obtain ⟨hx1, hx2⟩ := (hexI_of d).1 hdp
        obtain ⟨H, hH⟩ : ∃ H, hexV d = H := ⟨_, rfl⟩
        rw [hH] at hx1 hx2
        have hxg := fun w => refHex_any d w
        rw [hx1] at hxg
        have hHI : (H : Int) ≤ 15 := by omega
        have k5 : decide ((0 : Int) ≤ (H : Int)) = true := decide_eq_true (by omega)
        have hso := shl_or V H hVb (by omega)
        have HSO := Lib.hid hso
        have HV2 : Hid ((V * 16 + H) % 18446744073709551616 = natB 16 (ds.take (m + 1)) % 18446744073709551616) := by
          have hmd : m < ds.length := by omega
          have hdm : ds[m] = d := by
            have e1 : (l.drop (o + 2)).drop m = d :: t := by rw [List.drop_drop, hK]; exact hd
            have e2 : ds[m]? = some d := by
              rw [← hds.out, List.getElem?_take, if_pos hlt]
              have := congrArg List.head? e1
              rw [List.head?_drop] at this
              simpa using this
            rw [List.getElem?_eq_getElem hmd] at e2
            exact Option.some.inj e2
          unfold Hid
          rw [natB_take 16 ds m hmd, hdm, hH, HV.out]
          omega
        clear hsp hd hdp hx1 hx2 hH hso hVb
        go_wp2_with fail
        go_quiet (exact Calls.quiet_of_same (hxg _))
        generalize hW : World.drewN _ _ = w3
        have HC3 : Hid (Lxb w3 b s K 0 0) := by rw [← hW]; exact HCm.out.drew _
        have HO3 : Hid (Oth b w1 w3) := by rw [← hW]; exact HOm.out.trans (Oth.nx ((Nx.refl _).dr _))
        clear hW c0 c1 c2 c3 f0 f1 f2 f3
        obtain ⟨c0, c1, c2, c3, f0, f1, f2, f3⟩ := Lxb.cells HC3.out
        go_wp2_with fail
        go_quiet (exact Calls.quiet_of_same (hxg _))
        generalize hW : World.drewN _ _ = w4
        have HC4 : Hid (Lxb w4 b s K 0 0) := by rw [← hW]; exact HC3.out.drew _
        have HO4 : Hid (Oth b w1 w4) := by rw [← hW]; exact HO3.out.trans (Oth.nx ((Nx.refl _).dr _))
        clear hW c0 c1 c2 c3 f0 f1 f2 f3
        obtain ⟨c0, c1, c2, c3, f0, f1, f2, f3⟩ := Lxb.cells HC4.out
        go_wp2_with fail
        have ek : (K : Int) + 1 = ((K + 1 : Nat) : Int) := by omega
        go_roundw
        case rel =>
          rw [ek]
          refine ⟨m + 1, (V * 16 + H) % 18446744073709551616, ?_, ?_, hlt, HV2, HO4.out.own⟩
          · exact congrArg (Value.int .u64) HSO.out
          · rw [show o + 2 + (m + 1) = K + 1 by omega]
            exact HC4.out.put1 _
        case measure =>
          rw [ek, (HC4.out.put1 (K + 1)).at_, hat]
          omega
      · obtain rfl : m = M := by omega
        have HVE : Hid (V = natB 16 ds % 18446744073709551616) := by
          unfold Hid; rw [HV.out, List.take_of_length_le (by omega)]
        have hend := hsp.2 rfl
        have hk : decide ((K : Int) < (l.length : Int)) = false ∧ ¬ K < l.length ∨ ∃ (hp : K < s.size) (d : UInt8), decide ((K : Int) < (l.length : Int)) = true ∧ K < l.length ∧ (K : Int) < (s.size : Int) ∧ s[K]'hp = d ∧ isHexS d = false := by
          rcases hend with h | ⟨d, t, h, hd⟩
          · rw [List.drop_eq_nil_iff] at h
            exact .inl ⟨decide_eq_false (by omega), by omega⟩
          · obtain ⟨h2l, h2s, h2c⟩ := HL.out.byte K d t h
            exact .inr ⟨h2s, d, decide_eq_true (by omega), h2l, by omega, h2c, hd⟩
        clear hend hsp hlt hVb
        rcases hk with ⟨k1, k2⟩ | ⟨h2s, d, k1, k0, k2, k3, hdp⟩
        · go_wp2_with fail
          go_quiet (fail)
          go_wp2_with fail
          go_meet
          case rel => exact ⟨V, rfl, by rw [hK]; exact HCm.out.drew _, HVE, HOm.out.trans (Oth.nx ((Nx.refl _).dr _))⟩
        · have hxg := fun w => refHex_any d w
          rw [(hexI_of d).2 hdp] at hxg
          go_wp2_with fail
          go_quiet (exact Calls.quiet_of_same (hxg _))
          go_wp2_with fail
          go_meet
          case rel => exact ⟨V, rfl, by rw [hK]; exact HCm.out.drew _, HVE, HOm.out.trans (Oth.nx ((Nx.refl _).dr _))⟩
  case rest =>
    obtain ⟨V, rfl, hCm, HV, hOm⟩ := hcut
    have HCm := Lib.hid hCm
    have HOm := Lib.hid hOm
    obtain ⟨c0, c1, c2, c3, f0, f1, f2, f3⟩ := Lxb.cells hCm
    clear hCm hOm
    obtain ⟨K, hK⟩ : ∃ K, o + 2 + M = K := ⟨_, rfl⟩
    rw [hK] at HCm hMl hgo
    have hgo2 := hgo
    obtain ⟨c0, c1, c2, c3, f0, f1, f2, f3⟩ := Lxb.cells HCm.out
    have hT2 : Hid (Blk wc g (g + 1) #[.int .i64 2, .string ⟨#[]⟩, .int .i64 0, .int .u64 0, .int .i64 (o : Int)] 44) := HOm.out.blk hT1.out (by omega)
    have hR2 : Hid (Blk wc g g #[.int .i64 0, .string ⟨#[]⟩, .int .i64 0, .int .u64 0, .int .i64 0] 44) := HOm.out.blk hR1.out (by omega)
    have hO2 : Hid (Oth b w wc) := hO1.out.trans HOm.out
    obtain ⟨t0, t1, t2, t3, t4, z0, z1, z2, z3, z4⟩ := cells5 hT2.out
    have hKM : (K : Int) - ((o : Int) + 2) = (M : Int) := by omega
    have hK8 : (K : Int) ≤ 8000 := by omega
    have hgw : w.heap.size ≤ g := by omega
    obtain ⟨VI, hVI⟩ : ∃ VI : Int, (V : Int) = VI := ⟨_, rfl⟩
    have hVb : V < 18446744073709551616 := by rw [HV.out]; exact Nat.mod_lt _ (by decide)
    have hV0 : 0 ≤ VI := by omega
    have hV1 : VI ≤ 18446744073709551615 := by omega
    obtain ⟨N, hN⟩ : ∃ N, IntKind.i64.wrap VI = N := ⟨_, rfl⟩
    have HVI := Lib.hid hVI
    rw [hVI]
    clear hVb hVI
    -- the error
    have hE : ∃ E : Nat, (16 < M ∧ E = 4 ∨ ¬ 16 < M ∧ (9223372036854775807 : Int) < VI ∧ E = 5 ∨ ¬ 16 < M ∧ ¬ (9223372036854775807 : Int) < VI ∧ E = 0) ∧ (hexS ds).2 = E ∧ (E = 0 → (hexS ds).1 = N) := by
      have hx : hexS ds = if 16 < ds.length then (0, 4) else if 9223372036854775807 < natB 16 ds then (0, 5) else ((natB 16 ds : Int), 0) := rfl
      rw [hdl] at hx
      by_cases h1 : 16 < M
      · rw [if_pos h1] at hx
        exact ⟨4, .inl ⟨h1, rfl⟩, by rw [hx], fun h => by cases h⟩
      · rw [if_neg h1] at hx
        have hlt := natB16_lt ds hdx.out
        have hle : (16 : Nat) ^ ds.length ≤ 16 ^ 16 := Nat.pow_le_pow_right (by decide) (by omega)
        have hVe : V = natB 16 ds := by
          rw [HV.out]
          have e : (16 : Nat) ^ 16 = 18446744073709551616 := by decide
          exact Nat.mod_eq_of_lt (by omega)
        have hVI := HVI.out
        by_cases h2 : (9223372036854775807 : Int) < VI
        · rw [if_pos (by omega)] at hx
          exact ⟨5, .inr (.inl ⟨h1, h2, rfl⟩), by rw [hx], fun h => by cases h⟩
        · rw [if_neg (by omega)] at hx
          refine ⟨0, .inr (.inr ⟨h1, h2, rfl⟩), by rw [hx], fun _ => ?_⟩
          rw [hx, ← hN, IntKind.wrap_i64]
          dsimp only
          omega
    obtain ⟨E, hcase, hE1, hE2⟩ := hE
    have HE1 := Lib.hid hE1
    have HE2 := Lib.hid hE2
    clear hE1 hE2
    have hcase2 : (decide ((16 : Int) < (M : Int)) = true ∧ 16 < M ∧ E = 4) ∨ (decide ((16 : Int) < (M : Int)) = false ∧ ¬ 16 < M ∧ decide ((9223372036854775807 : Int) < VI) = true ∧ E = 5) ∨ (decide ((16 : Int) < (M : Int)) = false ∧ ¬ 16 < M ∧ decide ((9223372036854775807 : Int) < VI) = false ∧ E = 0) := by
      rcases hcase with ⟨h1, h2⟩ | ⟨h1, h2, h3⟩ | ⟨h1, h2, h3⟩
      · exact .inl ⟨decide_eq_true (by omega), h1, h2⟩
      · exact .inr (.inl ⟨decide_eq_false (by omega), h1, decide_eq_true h2, h3⟩)
      · exact .inr (.inr ⟨decide_eq_false (by omega), h1, decide_eq_false h2, h3⟩)
    clear hcase
    rcases hcase2 with ⟨q1, q1', rfl⟩ | ⟨q1, q1', q2, rfl⟩ | ⟨q1, q1', q2, rfl⟩
    all_goals
      go_wp2_with fail
      generalize hW : World.setCell _ _ _ = w5
      have hT5 : Hid (Blk w5 g (g + 1) #[.int .i64 2, .string ⟨#[]⟩, .int .i64 N, .int .u64 0, .int .i64 (o : Int)] 44) := by rw [← hW]; exact hT2.out.put 2 (.int .i64 N)
      have hR5 : Hid (Blk w5 g g #[.int .i64 0, .string ⟨#[]⟩, .int .i64 0, .int .u64 0, .int .i64 0] 44) := by rw [← hW]; exact hR2.out.other (by omega) _ _
      have hB5 : Hid (Lxb w5 b s K 0 0) := by rw [← hW]; exact HCm.out.other (by omega) _ _
      have hO5 : Hid (Oth b w w5) := by rw [← hW]; exact hO2.out.put (by omega) _ _
      clear hW c0 c1 c2 c3 f0 f1 f2 f3 t0 t1 t2 t3 t4 z0 z1 z2 z3 z4
      refine (behind_any b s l o K 2 N ⟨#[]⟩ 0 _ w5 hB5.out HL.out hMl hs).mono ?_; rintro e w6 ⟨rfl, hC6, hO6⟩
      have HC6 := Lib.hid hC6
      have HO6 := Lib.hid (hO5.out.trans hO6)
      have hR6 := hO6.blk hR5.out (by omega)
      obtain ⟨t0, t1, t2, t3, t4, z0, z1, z2, z3, z4⟩ := cells5 hR6
      clear hC6 hO6
      go_wp2_with fail
      refine bodyPost_ret (results_cell_row rfl _ _ g _ _ _ _ rfl hR6.put5.2 Tryz.underlying44 rfl (by kernel_rfl)) rfl ?_
      have hx := hX.out
      unfold sixW at hx
      rw [HE1.out] at hx
      have h6 := HC6.out
      rw [hgo2.out] at h6
      first
        | (rw [if_pos (by decide)] at hx
           rw [if_pos (by decide), if_pos (by decide)] at h6
           rw [← hx]
           exact ⟨_, _, _, _, _, rfl, K, Blk.oth5 h6 (by omega), fun h => by simp at h, HO6.out.put5 hgw⟩)
        | (have hn := HE2.out (by first | rfl | trivial)
           rw [if_neg (show ¬ ((0 : Nat) ≠ 0) from fun h => h rfl)] at hx
           rw [if_neg (show ¬ ((0 : Nat) ≠ 0) from fun h => h rfl), if_neg (show ¬ ((0 : Nat) ≠ 0) from fun h => h rfl)] at h6
           cases go
           · rw [if_neg (show ¬ (false = true) by decide)] at hx
             rw [if_neg (show ¬ (false = true) by decide), if_neg (show ¬ (false = true) by decide)] at h6
             rw [← hx]
             refine ⟨_, _, _, _, _, rfl, K, Blk.oth5 h6 (by omega), fun _ => ⟨?_, by dsimp only; omega⟩, HO6.out.put5 hgw⟩
             rw [hn]; rfl
           · rw [if_pos (show true = true from rfl)] at hx
             rw [if_pos (show true = true from rfl), if_pos (show true = true from rfl)] at h6
             rw [← hx]
             refine ⟨_, _, _, _, _, rfl, K, ?_, fun h => by simp at h, HO6.out.put5 hgw⟩
             have e : (if ((2 : Nat), 2 + ds.length, tok0, 0).1 = 0 then 0 else o + ((2 : Nat), 2 + ds.length, tok0, 0).2.1) = K := by simp; omega
             rw [e]
             exact Blk.oth5 h6 (by omega))
end Go.Proofs.YtpaacfoiiihbeaaGreat

-- RlxI
set_option linter.unusedVariables false
set_option linter.unusedSimpArgs false
namespace Go.Proofs.YtpaacfoiiihbeaaGreat
open Go.RowKit

theorem sgnN_take (l : List UInt8) (n : Nat) (h : 1 ≤ n) : sgnN (l.take n) = sgnN l := by
  cases l with
  | nil => simp
  | cons c r => cases n with
    | zero => omega
    | succ n => rfl
theorem digN_cut (l : List UInt8) (n : Nat) : digN (l.take n) = min (digN l) n := spanN_cut isDig l n
/-- the parts of the longest number: sign, digits, fraction, exponent -/
structure Parts (l : List UInt8) (S D F X : Nat) : Prop where
  s : sgnN l = S
  d : digN (l.drop S) = D
  f : fracN (l.drop (S + D)) = F
  x : expN (l.drop (S + (D + F))) = X
  pos : D + F ≠ 0
theorem Parts.len {l : List UInt8} {S D F X : Nat} (h : Parts l S D F X) : decN l = S + (D + F) + X ∧ S + (D + F) + X ≤ l.length := by
  have e : decN l = S + (D + F) + X := by
    unfold decN
    dsimp only
    rw [h.s, h.d, h.f, if_neg h.pos, h.x]
  refine ⟨e, ?_⟩
  rw [← e]; exact decN_le l
theorem parts_of (l : List UInt8) (h : decN l ≠ 0) : ∃ S D F X, Parts l S D F X := by
  refine ⟨_, _, _, _, rfl, rfl, rfl, rfl, fun h0 => h ?_⟩
  unfold decN
  dsimp only
  rw [if_pos h0]
theorem Parts.whole {l : List UInt8} {S D F X : Nat} (h : Parts l S D F X) : wholeB (l.take (decN l)) = (decide (F = 0) && decide (X = 0)) := by
  obtain ⟨e, hl⟩ := h.len
  have hp := h.pos
  have hD := h.d
  unfold wholeB
  rw [e, sgnN_take l _ (by omega), h.s, List.drop_take, digN_cut, hD, List.length_take, Bool.eq_iff_iff]
  simp
  omega
/-- what a number's reading leaves: error, place, word, length -/
def numW (l : List UInt8) : Nat × Nat × TokV × Nat :=
  if (numberS l).1 ≠ 0 then ((numberS l).1, 0, tok0, 0) else if gosR (l.drop (numberS l).2.2) then (2, (numberS l).2.2, tok0, 0) else (0, 0, (numberS l).2.1, (numberS l).2.2)
theorem numW_hex (l : List UInt8) (h : hexN l ≠ 0) : numW l = sixW ((l.drop 2).take (spanN isHexS (l.drop 2))) (gosR (l.drop (2 + spanN isHexS (l.drop 2)))) := by
  have hx : hexN l = 2 + spanN isHexS (l.drop 2) := by
    cases l with
    | nil => exact absurd rfl h
    | cons c r => cases r with
      | nil => exact absurd rfl h
      | cons d r =>
        unfold hexN at h ⊢
        dsimp only at h ⊢
        split at h
        · rename_i h1; rw [if_pos h1]; rfl
        · exact absurd rfl h
  have hl := (hexN_le l).1
  have e1 : (l.take (hexN l)).drop 2 = (l.drop 2).take (spanN isHexS (l.drop 2)) := by
    rw [List.drop_take, hx]; congr 1; omega
  have hlen : ((l.drop 2).take (spanN isHexS (l.drop 2))).length = spanN isHexS (l.drop 2) := by
    simp; omega
  unfold numW sixW numberS
  rw [if_pos h]
  dsimp only
  rw [e1, hlen, hx]
theorem numW_dec (l : List UInt8) (h : hexN l = 0) (hd : decN l ≠ 0) : numW l =
    (if (if wholeB (l.take (decN l)) then (wholeS (l.take (decN l))).2 else (parseS (l.take (decN l))).2) ≠ 0 then ((if wholeB (l.take (decN l)) then (wholeS (l.take (decN l))).2 else (parseS (l.take (decN l))).2), 0, tok0, 0)
     else if gosR (l.drop (decN l)) then (2, decN l, tok0, 0) else (0, 0, (if wholeB (l.take (decN l)) then ⟨2, [], (wholeS (l.take (decN l))).1, 0, 0⟩ else ⟨3, [], 0, (parseS (l.take (decN l))).1, 0⟩), decN l)) := by
  have e : numberS l = if wholeB (l.take (decN l)) then ((wholeS (l.take (decN l))).2, ⟨2, [], (wholeS (l.take (decN l))).1, 0, 0⟩, decN l)
      else ((parseS (l.take (decN l))).2, ⟨3, [], 0, (parseS (l.take (decN l))).1, 0⟩, decN l) := by
    unfold numberS
    rw [if_neg (show ¬ hexN l ≠ 0 by simpa using h), if_neg hd]
  unfold numW
  rw [e]
  cases wholeB (l.take (decN l)) <;> rfl
theorem expN_parts (c : UInt8) (r : List UInt8) : expN (c :: r) = if (c.toNat = 101 ∨ c.toNat = 69) ∧ hasD (r.drop (sgnN r)) = true then 1 + sgnN r + digN (r.drop (sgnN r)) else 0 := by
  unfold expN
  dsimp only
  rw [hasD_iff]
  simp
theorem fracN_parts (c : UInt8) (r : List UInt8) : fracN (c :: r) = if c.toNat = 46 ∧ hasD r = true then 1 + digN r else 0 := by
  unfold fracN
  dsimp only
  rw [hasD_iff]
  simp [Nat.add_comm]
theorem has_sign (r : List UInt8) : (hasD r = true → sgnN r = 0) := by
  cases r with
  | nil => intro _; rfl
  | cons c t =>
    intro h
    have := (isDig_iff c).1 h
    unfold sgnN; dsimp only
    rw [if_neg (by omega)]
end Go.Proofs.YtpaacfoiiihbeaaGreat

-- RlxP
set_option linter.unusedVariables false
set_option linter.unusedSimpArgs false
namespace Go.Proofs.YtpaacfoiiihbeaaGreat
open Go.RowKit

theorem hex_starts (l : List UInt8) : (hexN l ≠ 0) ↔ ((l.head? = some 48 ∧ (l.drop 1).head? = some 120) ∧ ∃ c t, l.drop 2 = c :: t ∧ isHexS c = true) := by
  match l with
  | [] => simp [hexN]
  | [x] => simp [hexN]
  | [x, y] => simp [hexN, spanN]
  | x :: y :: c :: t =>
    unfold hexN
    dsimp only
    have hs : spanN isHexS (c :: t) ≠ 0 ↔ isHexS c = true := by
      unfold spanN
      cases isHexS c <;> simp
    by_cases h : x = 48 ∧ y = 120 ∧ spanN isHexS (c :: t) ≠ 0
    · rw [if_pos h]
      obtain ⟨rfl, rfl, h3⟩ := h
      simp [hs.1 h3]
    · rw [if_neg h]
      simp only [ne_eq, not_true_eq_false, false_iff]
      rintro ⟨⟨h1, h2⟩, c', t', h3, h4⟩
      simp at h1 h2 h3
      obtain ⟨rfl, rfl⟩ := h3
      exact h ⟨h1, h2, hs.2 h4⟩
theorem hexN_two (l : List UInt8) (h : hexN l ≠ 0) : 2 ≤ hexN l := by
  unfold hexN at h ⊢
  split at h
  · split at h
    · rename_i h1; rw [if_pos h1]; omega
    · exact absurd rfl h
  · exact absurd rfl h
theorem sign_case (c : UInt8) (r : List UInt8) : (c.toNat = 43 ∧ sgnN (c :: r) = 1) ∨ (c.toNat ≠ 43 ∧ c.toNat = 45 ∧ sgnN (c :: r) = 1) ∨ (c.toNat ≠ 43 ∧ c.toNat ≠ 45 ∧ sgnN (c :: r) = 0) := by
  unfold sgnN
  by_cases h1 : c.toNat = 43
  · exact .inl ⟨h1, by simp [h1]⟩
  · by_cases h2 : c.toNat = 45
    · exact .inr (.inl ⟨h1, h2, by simp [h2]⟩)
    · exact .inr (.inr ⟨h1, h2, by simp [h1, h2]⟩)
/-- what the test for digits to sixteen sees -/
theorem hex_case (s : ByteArray) (l : List UInt8) (o : Nat) (hl : Tx s l) (ho : (o : Int) ≤ 7000) :
    (decide ((l.drop o).head? = some 48 ∧ ((l.drop o).drop 1).head? = some 120) = false ∧ decide (hexN (l.drop o) ≠ 0) = false) ∨
    (decide ((l.drop o).head? = some 48 ∧ ((l.drop o).drop 1).head? = some 120) = true ∧
      ((decide ((o : Int) + 2 < (l.length : Int)) = false ∧ ¬ o + 2 < l.length ∧ decide (hexN (l.drop o) ≠ 0) = false) ∨
       (∃ (c : UInt8) (K : Nat) (hp : K < s.size), o + 2 = K ∧ decide ((o : Int) + 2 < (l.length : Int)) = true ∧ o + 2 < l.length ∧ (o : Int) + 2 = (K : Int) ∧ (K : Int) < (s.size : Int) ∧ IntKind.i64.wrap (K : Int) = (K : Int) ∧ K < l.length ∧ s[K]'hp = c ∧ decide (hexN (l.drop o) ≠ 0) = isHexS c))) := by
  have hx := hex_starts (l.drop o)
  by_cases h : (l.drop o).head? = some 48 ∧ ((l.drop o).drop 1).head? = some 120
  · right
    refine ⟨decide_eq_true h, ?_⟩
    by_cases h2 : o + 2 < l.length
    · right
      have hd := List.drop_eq_getElem_cons h2
      have hdd : (l.drop o).drop 2 = l[o + 2] :: l.drop (o + 2 + 1) := by rw [List.drop_drop]; exact hd
      obtain ⟨h1, hp, e⟩ := hl.byte (o + 2) l[o + 2] _ hd
      have hz : s.size = l.length := hl.size
      refine ⟨l[o + 2], o + 2, hp, rfl, decide_eq_true (by omega), h2, by omega, by omega, ?_, h2, e, ?_⟩
      · rw [IntKind.wrap_i64]; omega
      · rw [Bool.eq_iff_iff, decide_eq_true_iff, hx]
        constructor
        · rintro ⟨-, c, t, h3, h4⟩
          rw [hdd] at h3
          injection h3 with h3 _
          rw [h3]; exact h4
        · intro h4
          exact ⟨h, _, _, hdd, h4⟩
    · left
      refine ⟨decide_eq_false (by omega), h2, ?_⟩
      rw [decide_eq_false_iff_not, hx]
      rintro ⟨-, c, t, h3, -⟩
      rw [List.drop_drop, List.drop_eq_nil_iff.2 (by omega)] at h3
      cases h3
  · left
    refine ⟨decide_eq_false h, ?_⟩
    rw [decide_eq_false_iff_not, hx]
    exact fun h' => h h'.1

/-- what the test for a fraction sees -/
theorem frac_case (s : ByteArray) (l : List UInt8) (A : Nat) (hl : Tx s l) (hA : A ≤ l.length) :
    (decide ((A : Int) < (l.length : Int)) = false ∧ ¬ A < l.length ∧ fracN (l.drop A) = 0) ∨
    (∃ (c : UInt8) (hp : A < s.size), decide ((A : Int) < (l.length : Int)) = true ∧ A < l.length ∧ (A : Int) < (s.size : Int) ∧ s[A]'hp = c ∧
      ((((c.toNat : Int) == 46) = false ∧ fracN (l.drop A) = 0) ∨ (((c.toNat : Int) == 46) = true ∧ ((hasD (l.drop (A + 1)) = false ∧ fracN (l.drop A) = 0) ∨ (hasD (l.drop (A + 1)) = true ∧ fracN (l.drop A) = 1 + digN (l.drop (A + 1))))))) := by
  have hz : s.size = l.length := hl.size
  by_cases h : A < l.length
  · right
    have hd := List.drop_eq_getElem_cons h
    obtain ⟨h1, hp, e⟩ := hl.byte A l[A] _ hd
    refine ⟨l[A], hp, decide_eq_true (by omega), h, by omega, e, ?_⟩
    rw [hd, fracN_parts]
    by_cases h46 : l[A].toNat = 46
    · right
      refine ⟨by rw [beq_iff_eq]; omega, ?_⟩
      cases hh : hasD (l.drop (A + 1))
      · exact .inl ⟨rfl, by rw [if_neg (by simp)]⟩
      · exact .inr ⟨rfl, by rw [if_pos ⟨h46, rfl⟩]⟩
    · left
      exact ⟨by rw [beq_eq_false_iff_ne]; omega, by rw [if_neg (fun h => h46 h.1)]⟩
  · left
    refine ⟨decide_eq_false (by omega), h, ?_⟩
    rw [List.drop_eq_nil_iff.2 (by omega)]; rfl


/-- an e or an E ahead -/
def isE : List UInt8 → Bool
  | [] => false
  | c :: _ => decide (c.toNat = 101) || decide (c.toNat = 69)
theorem expN_isE (l : List UInt8) (A : Nat) : (isE (l.drop A) = false → expN (l.drop A) = 0) ∧
    (isE (l.drop A) = true → A < l.length ∧ expN (l.drop A) = if hasD ((l.drop (A + 1)).drop (sgnN (l.drop (A + 1)))) = true then 1 + sgnN (l.drop (A + 1)) + digN ((l.drop (A + 1)).drop (sgnN (l.drop (A + 1)))) else 0) := by
  by_cases h : A < l.length
  · rw [List.drop_eq_getElem_cons h, expN_parts]
    unfold isE
    dsimp only
    constructor
    · intro h1
      rw [if_neg]
      simp at h1
      rintro ⟨h2 | h2, -⟩
      · exact h1.1 h2
      · exact h1.2 h2
    · intro h1
      refine ⟨h, ?_⟩
      simp at h1
      cases hasD ((l.drop (A + 1)).drop (sgnN (l.drop (A + 1)))) <;> simp [h1]
  · rw [List.drop_eq_nil_iff.2 (by omega)]
    exact ⟨fun _ => rfl, fun h => by cases h⟩
theorem exp_case (s : ByteArray) (l : List UInt8) (A : Nat) (hl : Tx s l) (hA : A ≤ l.length) :
    (decide ((A : Int) < (l.length : Int)) = false ∧ ¬ A < l.length ∧ isE (l.drop A) = false) ∨
    (∃ (c : UInt8) (hp : A < s.size), decide ((A : Int) < (l.length : Int)) = true ∧ A < l.length ∧ (A : Int) < (s.size : Int) ∧ s[A]'hp = c ∧
      ((((c.toNat : Int) == 101) = false ∧ ((c.toNat : Int) == 69) = false ∧ isE (l.drop A) = false) ∨ (((c.toNat : Int) == 101) = true ∧ isE (l.drop A) = true) ∨ (((c.toNat : Int) == 101) = false ∧ ((c.toNat : Int) == 69) = true ∧ isE (l.drop A) = true))) := by
  have hz : s.size = l.length := hl.size
  by_cases h : A < l.length
  · right
    have hd := List.drop_eq_getElem_cons h
    obtain ⟨h1, hp, e⟩ := hl.byte A l[A] _ hd
    refine ⟨l[A], hp, decide_eq_true (by omega), h, by omega, e, ?_⟩
    rw [hd]
    unfold isE
    dsimp only
    by_cases h1 : l[A].toNat = 101
    · right; left
      exact ⟨by rw [beq_iff_eq]; omega, by simp [h1]⟩
    · by_cases h2 : l[A].toNat = 69
      · right; right
        exact ⟨by rw [beq_eq_false_iff_ne]; omega, by rw [beq_iff_eq]; omega, by simp [h2]⟩
      · left
        exact ⟨by rw [beq_eq_false_iff_ne]; omega, by rw [beq_eq_false_iff_ne]; omega, by simp [h1, h2]⟩
  · left
    refine ⟨decide_eq_false (by omega), h, ?_⟩
    rw [List.drop_eq_nil_iff.2 (by omega)]; rfl
/-- a sign one further on -/
theorem sgn_at (s : ByteArray) (l : List UInt8) (A : Nat) (hl : Tx s l) (hA : A < l.length) (h7 : (A : Int) ≤ 7000) :
    (decide ((A : Int) + 1 < (l.length : Int)) = false ∧ ¬ A + 1 < l.length ∧ decide (sgnN (l.drop (A + 1)) = 1) = false) ∨
    (∃ (c : UInt8) (K : Nat) (hp : K < s.size), A + 1 = K ∧ decide ((A : Int) + 1 < (l.length : Int)) = true ∧ A + 1 < l.length ∧ (A : Int) + 1 = (K : Int) ∧ (K : Int) < (s.size : Int) ∧ IntKind.i64.wrap (K : Int) = (K : Int) ∧ K < l.length ∧ s[K]'hp = c ∧
      ((((c.toNat : Int) == 43) = false ∧ ((c.toNat : Int) == 45) = false ∧ decide (sgnN (l.drop (A + 1)) = 1) = false) ∨ (((c.toNat : Int) == 43) = true ∧ decide (sgnN (l.drop (A + 1)) = 1) = true) ∨ (((c.toNat : Int) == 43) = false ∧ ((c.toNat : Int) == 45) = true ∧ decide (sgnN (l.drop (A + 1)) = 1) = true))) := by
  have hz : s.size = l.length := hl.size
  by_cases h : A + 1 < l.length
  · right
    have hd := List.drop_eq_getElem_cons h
    obtain ⟨h1, hp, e⟩ := hl.byte (A + 1) l[A + 1] _ hd
    refine ⟨l[A + 1], A + 1, hp, rfl, decide_eq_true (by omega), h, by omega, by omega, by rw [IntKind.wrap_i64]; omega, h, e, ?_⟩
    rw [hd]
    rcases sign_case l[A + 1] (l.drop (A + 1 + 1)) with ⟨h1, h2⟩ | ⟨h1, h2, h3⟩ | ⟨h1, h2, h3⟩
    · right; left
      exact ⟨by rw [beq_iff_eq]; omega, by rw [h2]; rfl⟩
    · right; right
      exact ⟨by rw [beq_eq_false_iff_ne]; omega, by rw [beq_iff_eq]; omega, by rw [h3]; rfl⟩
    · left
      exact ⟨by rw [beq_eq_false_iff_ne]; omega, by rw [beq_eq_false_iff_ne]; omega, by rw [h3]; rfl⟩
  · left
    refine ⟨decide_eq_false (by omega), h, ?_⟩
    rw [List.drop_eq_nil_iff.2 (by omega)]; rfl
theorem sgnN_or (r : List UInt8) : sgnN r = 0 ∨ sgnN r = 1 := by
  cases r with
  | nil => exact .inl rfl
  | cons c t => rcases sign_case c t with ⟨_, h⟩ | ⟨_, _, h⟩ | ⟨_, _, h⟩
                · exact .inr h
                · exact .inr h
                · exact .inl h
/-- what a number's function has at its end -/
theorem numW_fin {W : Nat × Nat × TokV × Nat} {E0 K A o : Nat} {V0 : TokV} {G : Bool} (hW : W = if E0 ≠ 0 then (E0, 0, tok0, 0) else if G then (2, K, tok0, 0) else (0, 0, V0, K)) (hA : A = o + K) :
    (if E0 ≠ 0 then E0 else if G then 2 else 0) = W.1 ∧ (if E0 ≠ 0 then o else if G then A else 0) = (if W.1 = 0 then 0 else o + W.2.1) ∧ (W.1 = 0 → E0 = 0 ∧ W.2.2.1 = V0 ∧ W.2.2.2 = K) := by
  subst hW
  subst hA
  by_cases h : E0 = 0
  · subst h
    cases G
    · exact ⟨rfl, rfl, fun _ => ⟨rfl, rfl, rfl⟩⟩
    · exact ⟨rfl, rfl, fun h => by cases h⟩
  · rw [if_pos h, if_pos h, if_pos h]
    refine ⟨rfl, ?_, fun h' => absurd h' h⟩
    dsimp only
    rw [if_neg h, Nat.add_zero]
/-- error and word of a number in tens -/
def decE (T : List UInt8) : Nat := if wholeB T then (wholeS T).2 else (parseS T).2
def decV (T : List UInt8) : TokV := if wholeB T then ⟨2, [], (wholeS T).1, 0, 0⟩ else ⟨3, [], 0, (parseS T).1, 0⟩
theorem numW_tens (l : List UInt8) (h : hexN l = 0) (hd : decN l ≠ 0) (K : Nat) (hK : decN l = K) (T : List UInt8) (hT : l.take K = T) :
    numW l = if decE T ≠ 0 then (decE T, 0, tok0, 0) else if gosR (l.drop K) then (2, K, tok0, 0) else (0, 0, decV T, K) := by
  subst hK; subst hT
  exact numW_dec l h hd
theorem tokC_dec (T : List UInt8) (o : Nat) (k n : Int) (d : Nat) (h : k = ((decV T).k : Nat) ∧ n = (decV T).n ∧ d = (decV T).d) :
    #[.int .i64 k, .string ⟨#[]⟩, .int .i64 n, .int .u64 ((d : Nat) : Int), .int .i64 (o : Int)] = tokC { decV T with p := o } := by
  obtain ⟨rfl, rfl, rfl⟩ := h
  unfold tokC decV
  cases wholeB T <;> rfl
theorem whole_digits (l : List UInt8) (h : wholeB l = true) : ∀ c ∈ l.drop (sgnN l), isDig c = true := by
  unfold wholeB at h
  have h := of_decide_eq_true h
  have := spanN_take isDig (l.drop (sgnN l))
  rw [List.take_of_length_le] at this
  · exact this
  · rw [List.length_drop]
    unfold digN at h
    omega
end Go.Proofs.YtpaacfoiiihbeaaGreat

-- RlxQ
set_option linter.unusedVariables false
set_option linter.unusedSimpArgs false
namespace Go.Proofs.YtpaacfoiiihbeaaGreat
open Go.RowKit

theorem isLt_iff (c : UInt8) : isLtS c = (isLetS c || decide (c.toNat = 95)) := by
  unfold isLtS
  cases isLetS c <;> simp
theorem first_cons (c : UInt8) (r : List UInt8) : firstS (c :: r) = if isLtS c = true then nameS (c :: r)
      else if isDig c || decide (c.toNat = 43) || decide (c.toNat = 45) || decide (c.toNat = 46) then numberS (c :: r)
      else if c.toNat = 34 ∨ c.toNat = 39 then quotedS c r
      else if signsL.contains c then (0, ⟨5, [c], 0, 0, 0⟩, 1) else (2, tok0, 0) := by
  rw [isLt_iff]; rfl
theorem word_nil : wordS [] = (0, 0, ⟨6, [], 0, 0, 0⟩, 0) := rfl
theorem word_name (c : UInt8) (r : List UInt8) (h : isLtS c = true) : wordS (c :: r) = ((nameS (c :: r)).1, 0, (nameS (c :: r)).2) := by
  unfold wordS
  rw [first_cons, if_pos h]
  unfold nameS
  split
  · rfl
  · split
    · rfl
    · rfl
theorem frac_head (l : List UInt8) : fracN l ≠ 0 ↔ l.head? = some 46 ∧ hasD (l.drop 1) = true := by
  cases l with
  | nil => simp [fracN]
  | cons c r =>
    rw [fracN_parts]
    have : c.toNat = 46 ↔ c = 46 := by
      constructor
      · intro h; exact UInt8.toNat.inj h
      · rintro rfl; rfl
    by_cases h : c.toNat = 46 ∧ hasD r = true
    · rw [if_pos h]; simp [this.1 h.1, h.2]
    · rw [if_neg h]
      simp only [ne_eq, not_true_eq_false, false_iff]
      rintro ⟨h1, h2⟩
      simp at h1
      exact h ⟨this.2 h1, h2⟩
theorem decN_iff (l : List UInt8) : decN l ≠ 0 ↔ hasD (l.drop (sgnN l)) = true ∨ ((l.drop (sgnN l)).head? = some 46 ∧ hasD ((l.drop (sgnN l)).drop 1) = true) := by
  rw [← frac_head, hasD_iff]
  have e : decN l ≠ 0 ↔ digN (l.drop (sgnN l)) + fracN (l.drop (sgnN l + digN (l.drop (sgnN l)))) ≠ 0 := by
    unfold decN
    dsimp only
    by_cases h : digN (l.drop (sgnN l)) + fracN (l.drop (sgnN l + digN (l.drop (sgnN l)))) = 0
    · rw [if_pos h]; simp [h]
    · rw [if_neg h]
      constructor
      · intro _; exact h
      · intro _ h2; omega
  rw [e]
  by_cases h : digN (l.drop (sgnN l)) = 0
  · rw [h, Nat.add_zero]; simp
  · simp [h]
theorem decN_start (c : UInt8) (r : List UInt8) : decN (c :: r) ≠ 0 ↔ isDig c = true ∨ (c.toNat = 46 ∧ hasD r = true) ∨ ((c.toNat = 43 ∨ c.toNat = 45) ∧ (hasD r = true ∨ (r.head? = some 46 ∧ hasD (r.drop 1) = true))) := by
  have h46 : (c = 46) ↔ c.toNat = 46 := by
    constructor
    · rintro rfl; rfl
    · intro h; exact UInt8.toNat.inj h
  rw [decN_iff]
  rcases sign_case c r with ⟨h1, h2⟩ | ⟨h1, h3, h2⟩ | ⟨h1, h3, h2⟩
  · rw [h2]
    have hd : isDig c = false := by
      cases h : isDig c
      · rfl
      · have := (isDig_iff c).1 h; omega
    simp [hd, h1]
  · rw [h2]
    have hd : isDig c = false := by
      cases h : isDig c
      · rfl
      · have := (isDig_iff c).1 h; omega
    simp [hd, h3]
  · rw [h2, List.drop_zero]
    simp [h1, h3, hasD, h46]
theorem hex_dec (c : UInt8) (r : List UInt8) (h : hexN (c :: r) ≠ 0) : decN (c :: r) ≠ 0 := by
  rw [decN_start]
  obtain ⟨⟨h1, -⟩, -⟩ := (hex_starts _).1 h
  simp at h1
  subst h1
  exact .inl rfl
theorem span_end (p : UInt8 → Bool) (l : List UInt8) (n : Nat) (h : n = spanN p l) : l.drop n = [] ∨ ∃ c t, l.drop n = c :: t ∧ p c = false := by
  subst h; exact spanN_drop p l
theorem decN_end (l : List UInt8) (h : decN l ≠ 0) : l.drop (decN l) = [] ∨ ∃ c t, l.drop (decN l) = c :: t ∧ isDig c = false := by
  obtain ⟨S, D, F, X, hP⟩ := parts_of l h
  obtain ⟨e, hle⟩ := hP.len
  by_cases hX : X = 0
  · by_cases hF : F = 0
    · have hd := hP.d
      have := spanN_drop isDig (l.drop S)
      rw [show spanN isDig (l.drop S) = D from hd, List.drop_drop] at this
      rw [e, hX, hF, Nat.add_zero, Nat.add_zero]; exact this
    · have hf := hP.f
      generalize hm : l.drop (S + D) = m at hf
      cases m with
      | nil => exact absurd hf (fun h => hF h.symm)
      | cons c r =>
        rw [fracN_parts] at hf
        split at hf
        · have := spanN_drop isDig r
          rw [show spanN isDig r = digN r from rfl] at this
          have e2 : l.drop (decN l) = r.drop (digN r) := by
            rw [e, hX, Nat.add_zero, ← hf, ← Nat.add_assoc, ← List.drop_drop, hm, Nat.add_comm 1, List.drop_succ_cons]
          rw [e2]; exact this
        · exact absurd hf (fun h => hF h.symm)
  · have hx := hP.x
    generalize hm : l.drop (S + (D + F)) = m at hx
    cases m with
    | nil => exact absurd hx (fun h => hX h.symm)
    | cons c r =>
      rw [expN_parts] at hx
      split at hx
      · have := spanN_drop isDig (r.drop (sgnN r))
        rw [show spanN isDig (r.drop (sgnN r)) = digN (r.drop (sgnN r)) from rfl, List.drop_drop] at this
        have e2 : l.drop (decN l) = r.drop (sgnN r + digN (r.drop (sgnN r))) := by
          rw [e, ← hx, ← List.drop_drop, hm, Nat.add_assoc, Nat.add_comm 1, List.drop_succ_cons]
        rw [e2]; exact this
      · exact absurd hx (fun h => hX h.symm)
theorem hexN_end (l : List UInt8) (h : hexN l ≠ 0) : l.drop (hexN l) = [] ∨ ∃ c t, l.drop (hexN l) = c :: t ∧ isDig c = false := by
  match l with
  | [] => exact absurd rfl h
  | [x] => exact absurd rfl h
  | x :: y :: r =>
    have e : hexN (x :: y :: r) = if x = 48 ∧ y = 120 ∧ spanN isHexS r ≠ 0 then 2 + spanN isHexS r else 0 := rfl
    rw [e] at h ⊢
    split at h
    · rename_i h1
      rw [if_pos h1, Nat.add_comm 2, List.drop_succ_cons, List.drop_succ_cons]
      rcases spanN_drop isHexS r with h2 | ⟨c, t, h2, h3⟩
      · exact .inl h2
      · refine .inr ⟨c, t, h2, ?_⟩
        unfold isHexS at h3
        simp at h3
        exact h3.1.1
    · exact absurd rfl h
theorem gos_eq (l : List UInt8) (h : l = [] ∨ ∃ c t, l = c :: t ∧ isDig c = false) : goesS l = gosR l := by
  rcases h with rfl | ⟨c, t, rfl, h⟩
  · rfl
  · show isNmS c = (isLtS c || decide (c.toNat = 46))
    rw [isNm_iff, h, Bool.or_false]
theorem word_num (c : UInt8) (r : List UInt8) (h : isLtS c = false) (hd : decN (c :: r) ≠ 0) : wordS (c :: r) = numW (c :: r) := by
  have hc : (isDig c || decide (c.toNat = 43) || decide (c.toNat = 45) || decide (c.toNat = 46)) = true := by
    rcases (decN_start c r).1 hd with h | ⟨h, -⟩ | ⟨h | h, -⟩ <;> simp [h]
  have hf : firstS (c :: r) = numberS (c :: r) := by rw [first_cons, if_neg (by rw [h]; decide), if_pos hc]
  unfold wordS numW
  rw [hf]
  by_cases h0 : (numberS (c :: r)).1 = 0
  · have h00 : ¬ (numberS (c :: r)).1 ≠ 0 := fun h => h h0
    rw [if_neg h00, if_neg h00]
    have hk : numTok (numberS (c :: r)).2.1 = true ∧ goesS ((c :: r).drop (numberS (c :: r)).2.2) = gosR ((c :: r).drop (numberS (c :: r)).2.2) := by
      unfold numberS
      by_cases hx : hexN (c :: r) ≠ 0
      · rw [if_pos hx]; exact ⟨rfl, gos_eq _ (hexN_end _ hx)⟩
      · rw [if_neg hx, if_neg hd]
        split
        · exact ⟨rfl, gos_eq _ (decN_end _ hd)⟩
        · exact ⟨rfl, gos_eq _ (decN_end _ hd)⟩
    rw [hk.1, hk.2, Bool.true_and]
  · rw [if_pos h0, if_pos h0]
theorem word_bad (c : UInt8) (r : List UInt8) (h : isLtS c = false) (hc : (isDig c || decide (c.toNat = 43) || decide (c.toNat = 45) || decide (c.toNat = 46)) = true) (hd : decN (c :: r) = 0) : wordS (c :: r) = (2, 0, tok0, 0) := by
  have hf : firstS (c :: r) = numberS (c :: r) := by rw [first_cons, if_neg (by rw [h]; decide), if_pos hc]
  have hx : ¬ hexN (c :: r) ≠ 0 := fun hx => hex_dec c r hx hd
  unfold wordS
  rw [hf]
  unfold numberS
  rw [if_neg hx, if_pos hd]
  rfl
/-- how far a text in quotes goes: to its end, the line's end, or the text's -/
def quoteM (q : UInt8) (r : List UInt8) : Nat := spanN (fun c => decide (c ≠ q) && decide (c ≠ 10)) r
theorem quote_m (q : UInt8) (hq : q ≠ 10) (r : List UInt8) : (quoteN q r = r.length ∨ lineN r < quoteN q r → (r.drop (quoteM q r) = [] ∨ ∃ t, r.drop (quoteM q r) = 10 :: t)) ∧
    (¬ (quoteN q r = r.length ∨ lineN r < quoteN q r) → quoteN q r = quoteM q r ∧ ∃ t, r.drop (quoteM q r) = q :: t) := by
  induction r with
  | nil => exact ⟨fun _ => .inl rfl, fun h => absurd (.inl rfl) h⟩
  | cons c r ih =>
    by_cases h1 : c = q
    · subst h1
      have e1 : quoteM c (c :: r) = 0 := by unfold quoteM spanN; simp
      have e2 : quoteN c (c :: r) = 0 := by unfold quoteN spanN; simp
      rw [e1, e2]
      refine ⟨fun h => ?_, fun _ => ⟨rfl, r, rfl⟩⟩
      simp at h
    · by_cases h2 : c = 10
      · subst h2
        have e1 : quoteM q (10 :: r) = 0 := by unfold quoteM spanN; simp
        have e2 : quoteN q (10 :: r) = quoteN q r + 1 := by unfold quoteN; conv => { lhs; unfold spanN }; rw [if_pos]; simp [Ne.symm hq]
        have e3 : lineN (10 :: r) = 0 := by unfold lineN spanN; simp
        rw [e1, e2, e3]
        refine ⟨fun _ => .inr ⟨r, rfl⟩, fun h => absurd (.inr (Nat.succ_pos _)) h⟩
      · have e1 : quoteM q (c :: r) = quoteM q r + 1 := by unfold quoteM; conv => { lhs; unfold spanN }; rw [if_pos]; simp [h1, h2]
        have e2 : quoteN q (c :: r) = quoteN q r + 1 := by unfold quoteN; conv => { lhs; unfold spanN }; rw [if_pos]; simp [h1]
        have e3 : lineN (c :: r) = lineN r + 1 := by unfold lineN; conv => { lhs; unfold spanN }; rw [if_pos]; simp [h2]
        rw [e1, e2, e3, List.drop_succ_cons, List.length_cons]
        have i1 : (quoteN q r + 1 = r.length + 1 ∨ lineN r + 1 < quoteN q r + 1) ↔ (quoteN q r = r.length ∨ lineN r < quoteN q r) := by omega
        rw [i1]
        refine ⟨ih.1, fun h => ?_⟩
        obtain ⟨a, b⟩ := ih.2 h
        exact ⟨by rw [a], b⟩
theorem word_quote (c : UInt8) (r : List UInt8) (hc : c.toNat = 34 ∨ c.toNat = 39) : (r.drop (quoteM c r) = [] ∨ ∃ t, r.drop (quoteM c r) = 10 :: t) ∧ wordS (c :: r) = (2, 0, tok0, 0) ∨
    (∃ t, r.drop (quoteM c r) = c :: t) ∧ wordS (c :: r) = (0, 0, ⟨4, r.take (quoteM c r), 0, 0, 0⟩, quoteM c r + 2) := by
  have h1 : isLtS c = false := by
    rw [isLt_iff]; unfold isLetS
    rcases hc with h | h <;> simp [h]
  have h2 : (isDig c || decide (c.toNat = 43) || decide (c.toNat = 45) || decide (c.toNat = 46)) = false := by
    have hd : isDig c = false := by
      cases h : isDig c
      · rfl
      · have := (isDig_iff c).1 h; omega
    rcases hc with h | h <;> simp [h, hd]
  have hq : c ≠ 10 := by rintro rfl; revert hc; decide
  have hf : firstS (c :: r) = quotedS c r := by rw [first_cons, if_neg (by rw [h1]; decide), if_neg (by rw [h2]; decide), if_pos hc]
  have hm := quote_m c hq r
  unfold wordS
  rw [hf]
  unfold quotedS
  by_cases h : quoteN c r = r.length ∨ lineN r < quoteN c r
  · rw [if_pos h]
    exact .inl ⟨hm.1 h, rfl⟩
  · rw [if_neg h]
    obtain ⟨e, ht⟩ := hm.2 h
    rw [e]
    exact .inr ⟨ht, rfl⟩
theorem word_sign (c : UInt8) (r : List UInt8) (h1 : isLtS c = false) (h2 : (isDig c || decide (c.toNat = 43) || decide (c.toNat = 45) || decide (c.toNat = 46)) = false) (h3 : ¬ (c.toNat = 34 ∨ c.toNat = 39)) :
    wordS (c :: r) = if signsL.contains c then (0, 0, ⟨5, [c], 0, 0, 0⟩, 1) else (2, 0, tok0, 0) := by
  have hf : firstS (c :: r) = if signsL.contains c then (0, ⟨5, [c], 0, 0, 0⟩, 1) else (2, tok0, 0) := by rw [first_cons, if_neg (by rw [h1]; decide), if_neg (by rw [h2]; decide), if_neg h3]
  unfold wordS
  rw [hf]
  cases signsL.contains c <;> rfl
theorem sign_byte (i : Nat) (hi : i < 13) : ∃ (x : UInt8) (hp : i < (ByteArray.mk #[123, 125, 40, 41, 91, 93, 60, 62, 44, 59, 58, 61, 42]).size), (ByteArray.mk #[123, 125, 40, 41, 91, 93, 60, 62, 44, 59, 58, 61, 42])[i]'hp = x ∧ signsL[i]? = some x := by
  refine ⟨_, hi, rfl, ?_⟩
  unfold signsL
  simp [ByteArray.getElem_eq_getElem_data]
theorem third_at (s : ByteArray) (l : List UInt8) (o : Nat) (c d : UInt8) (r2 : List UInt8) (hl : Tx s l) (h : l.drop o = c :: d :: r2) (ho7 : (o : Int) ≤ 7000) :
    (decide ((o : Int) + 2 < (l.length : Int)) = false ∧ hasD r2 = false) ∨
    (∃ (e : UInt8) (K : Nat) (hp : K < s.size), (o : Int) + 2 = (K : Int) ∧ decide ((o : Int) + 2 < (l.length : Int)) = true ∧ decide ((K : Int) < (l.length : Int)) = true ∧ (K : Int) < (s.size : Int) ∧ IntKind.i64.wrap (K : Int) = (K : Int) ∧ s[K]'hp = e ∧ isDig e = hasD r2) := by
  have hd : l.drop (o + 2) = r2 := by rw [← List.drop_drop, h]; rfl
  cases r2 with
  | nil =>
    left
    rw [List.drop_eq_nil_iff] at hd
    exact ⟨decide_eq_false (by omega), rfl⟩
  | cons e t =>
    right
    obtain ⟨h1, h2, h3⟩ := hl.byte (o + 2) e t hd
    exact ⟨e, o + 2, h2, by omega, decide_eq_true (by omega), decide_eq_true (by omega), by omega, by rw [IntKind.wrap_i64]; omega, h3, rfl⟩
theorem word_cases (s : ByteArray) (l : List UInt8) (o : Nat) (c : UInt8) (r : List UInt8) (d : UInt8) (W : Nat × Nat × TokV × Nat) (DC DN : Bool) (hl : Tx s l) (hcr : l.drop o = c :: r) (hLC : isLtS c = false) (hDC : isDig c = DC) (hDN : isDig d = DN)
    (hd : r.headD 0 = d) (hdr : hasD r = isDig d) (hW : wordS (c :: r) = W) (ho7 : (o : Int) ≤ 7000) :
    (decN (c :: r) ≠ 0 ∧ (DC = true ∨ (DC = false ∧ ((c.toNat : Int) == 46) = true ∧ DN = true) ∨
              (DC = false ∧ ((c.toNat : Int) == 46) = false ∧ (((c.toNat : Int) == 43) = true ∨ ((c.toNat : Int) == 43) = false ∧ ((c.toNat : Int) == 45) = true) ∧
                (DN = true ∨ (DN = false ∧ ((d.toNat : Int) == 46) = true ∧ ∃ (e : UInt8) (K : Nat) (hp : K < s.size), (o : Int) + 2 = (K : Int) ∧ decide ((o : Int) + 2 < (l.length : Int)) = true ∧ decide ((K : Int) < (l.length : Int)) = true ∧ (K : Int) < (s.size : Int) ∧ IntKind.i64.wrap (K : Int) = (K : Int) ∧ s[K]'hp = e ∧ isDig e = true))))) ∨
            (W = (2, 0, tok0, 0) ∧ DC = false ∧ ((c.toNat : Int) == 46) = false ∧ (((c.toNat : Int) == 43) = true ∨ ((c.toNat : Int) == 43) = false ∧ ((c.toNat : Int) == 45) = true) ∧ DN = false ∧
                (((d.toNat : Int) == 46) = false ∨ (((d.toNat : Int) == 46) = true ∧ (decide ((o : Int) + 2 < (l.length : Int)) = false ∨ ∃ (e : UInt8) (K : Nat) (hp : K < s.size), (o : Int) + 2 = (K : Int) ∧ decide ((o : Int) + 2 < (l.length : Int)) = true ∧ decide ((K : Int) < (l.length : Int)) = true ∧ (K : Int) < (s.size : Int) ∧ IntKind.i64.wrap (K : Int) = (K : Int) ∧ s[K]'hp = e ∧ isDig e = false)))) ∨
            (DC = false ∧ ((c.toNat : Int) == 46) = false ∧ ((c.toNat : Int) == 43) = false ∧ ((c.toNat : Int) == 45) = false ∧ (((c.toNat : Int) == 34) = true ∨ ((c.toNat : Int) == 34) = false ∧ ((c.toNat : Int) == 39) = true)) ∨
            (W = (if signsL.contains c then (0, 0, ⟨5, [c], 0, 0, 0⟩, 1) else (2, 0, tok0, 0)) ∧ DC = false ∧ (((c.toNat : Int) == 46) = false ∨ ((c.toNat : Int) == 46) = true ∧ DN = false) ∧ ((c.toNat : Int) == 43) = false ∧ ((c.toNat : Int) == 45) = false ∧ ((c.toNat : Int) == 34) = false ∧ ((c.toNat : Int) == 39) = false) := by
  have yes : ∀ (x : UInt8) (n : Nat), x.toNat = n → ((x.toNat : Int) == (n : Int)) = true := fun x n h => by rw [beq_iff_eq]; omega
  have no : ∀ (x : UInt8) (n : Nat), x.toNat ≠ n → ((x.toNat : Int) == (n : Int)) = false := fun x n h => by rw [beq_eq_false_iff_ne]; omega
  have dig : ∀ n, c.toNat = n → n < 48 → DC = false := fun n h1 h2 => by
    rw [← hDC]
    cases h : isDig c
    · rfl
    · have := (isDig_iff c).1 h; omega
  have d46 : r.head? = some 46 ↔ d.toNat = 46 := by
    rw [← hd]
    cases r with
    | nil => simp
    | cons e t =>
      simp only [List.head?_cons, List.headD_cons, Option.some.injEq]
      constructor
      · rintro rfl; rfl
      · intro h; exact UInt8.toNat.inj h
  have third : r.head? = some 46 → ∃ r2, r.drop 1 = r2 ∧ l.drop o = c :: d :: r2 := by
    intro h
    cases r with
    | nil => cases h
    | cons e t => refine ⟨t, rfl, ?_⟩; rw [hcr, ← hd]; rfl
  by_cases hn : decN (c :: r) ≠ 0
  · left
    refine ⟨hn, ?_⟩
    rcases (decN_start c r).1 hn with h | ⟨h46, hh⟩ | ⟨hs, hh⟩
    · left; rw [← hDC]; exact h
    · right; left
      exact ⟨dig 46 h46 (by decide), yes c 46 h46, by rw [← hDN, ← hdr]; exact hh⟩
    · right; right
      refine ⟨by rcases hs with h | h <;> exact dig _ h (by decide), no c 46 (by omega), hs.elim (fun h => .inl (yes c 43 h)) (fun h => .inr ⟨no c 43 (by omega), yes c 45 h⟩), ?_⟩
      cases DN
      · right
        rcases hh with hh | ⟨h1, h2⟩
        · rw [hdr, hDN] at hh; cases hh
        · obtain ⟨r2, e1, e2⟩ := third h1
          refine ⟨rfl, yes d 46 (d46.1 h1), ?_⟩
          rcases third_at s l o c d r2 hl e2 ho7 with ⟨-, h3⟩ | ⟨e, K, hp, q1, q2, q3, q4, q5, q6, q7⟩
          · rw [e1, h3] at h2; cases h2
          · exact ⟨e, K, hp, q1, q2, q3, q4, q5, q6, by rw [q7, ← e1]; exact h2⟩
      · exact .inl rfl
  · right
    have hn0 : decN (c :: r) = 0 := by omega
    have hst := fun h => hn ((decN_start c r).2 h)
    have hc0 : DC = false := by
      cases hD : DC
      · rfl
      · exact absurd (.inl (hDC.trans hD)) hst
    by_cases hs : c.toNat = 43 ∨ c.toNat = 45
    · left
      have hbad : W = (2, 0, tok0, 0) := by rw [← hW]; exact word_bad c r hLC (by rcases hs with h | h <;> simp [h]) hn0
      have hno : DN = false := by
        cases hD : DN
        · rfl
        · exact absurd (.inr (.inr ⟨hs, .inl (hdr.trans (hDN.trans hD))⟩)) hst
      refine ⟨hbad, hc0, no c 46 (by omega), hs.elim (fun h => .inl (yes c 43 h)) (fun h => .inr ⟨no c 43 (by omega), yes c 45 h⟩), hno, ?_⟩
      by_cases h46 : d.toNat = 46
      · right
        refine ⟨yes d 46 h46, ?_⟩
        obtain ⟨r2, e1, e2⟩ := third (d46.2 h46)
        rcases third_at s l o c d r2 hl e2 ho7 with ⟨h3, -⟩ | ⟨e, K, hp, q1, q2, q3, q4, q5, q6, q7⟩
        · exact .inl h3
        · right
          refine ⟨e, K, hp, q1, q2, q3, q4, q5, q6, ?_⟩
          cases hE : isDig e
          · rfl
          · exact absurd (.inr (.inr ⟨hs, .inr ⟨d46.2 h46, by rw [e1, ← q7]; exact hE⟩⟩)) hst
      · exact .inl (no d 46 h46)
    · right
      have n43 : c.toNat ≠ 43 := fun h => hs (.inl h)
      have n45 : c.toNat ≠ 45 := fun h => hs (.inr h)
      by_cases h46 : c.toNat = 46
      · right
        have hbad : W = (2, 0, tok0, 0) := by rw [← hW]; exact word_bad c r hLC (by simp [h46]) hn0
        have hc : c = 46 := UInt8.toNat.inj h46
        have hno : DN = false := by
          cases hD : DN
          · rfl
          · exact absurd (.inr (.inl ⟨h46, hdr.trans (hDN.trans hD)⟩)) hst
        refine ⟨?_, hc0, .inr ⟨yes c 46 h46, hno⟩, no c 43 n43, no c 45 n45, no c 34 (by omega), no c 39 (by omega)⟩
        rw [hbad, hc]; rfl
      · by_cases hq : c.toNat = 34 ∨ c.toNat = 39
        · left
          exact ⟨hc0, no c 46 h46, no c 43 n43, no c 45 n45, hq.elim (fun h => .inl (yes c 34 h)) (fun h => .inr ⟨no c 34 (by omega), yes c 39 h⟩)⟩
        · right
          refine ⟨?_, hc0, .inl (no c 46 h46), no c 43 n43, no c 45 n45, no c 34 (fun h => hq (.inl h)), no c 39 (fun h => hq (.inr h))⟩
          rw [← hW]
          exact word_sign c r hLC (by rw [hDC, hc0]; simp [n43, n45, h46]) hq
end Go.Proofs.YtpaacfoiiihbeaaGreat
