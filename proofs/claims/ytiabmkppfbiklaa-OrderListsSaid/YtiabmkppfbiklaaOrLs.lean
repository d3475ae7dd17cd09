/- The walk of OrderLists. -/
import Derived.Test.YtiabmkppfbiklaaOrIs
import Derived.Test.YtiabmkppfbiklaaHybH
import Derived.Deep.CutBlock
set_option linter.unusedVariables false
set_option linter.unusedSimpArgs false
namespace Go.Proofs.Ytiabmkppfbiklaa
open Go.RowKit

/-- two rows of numbers -/
def cmpLI : List Int → List Int → Int
  | [], [] => 0
  | [], _ :: _ => -1
  | _ :: _, [] => 1
  | x :: xs, y :: ys => if x < y then -1 else if y < x then 1 else cmpLI xs ys
theorem cmpLI_step {l m : List Int} {i : Nat} (hi : i < l.length) (hj : i < m.length) : cmpLI (l.drop i) (m.drop i) = if l[i] < m[i] then -1 else if m[i] < l[i] then 1 else cmpLI (l.drop (i + 1)) (m.drop (i + 1)) := by
  rw [List.drop_eq_getElem_cons hi, List.drop_eq_getElem_cons hj]; rfl
theorem cmpLI_val : ∀ l m : List Int, cmpL (cmpV 1) (l.map (leafV 3)) (m.map (leafV 3)) = cmpLI l m
  | [], [] => rfl
  | [], _ :: _ => rfl
  | _ :: _, [] => rfl
  | x :: xs, y :: ys => by
    rw [List.map_cons, List.map_cons]
    unfold cmpL cmpLI
    rw [leaf_cmp 0 3 (by decide) x y, cmpLI_val xs ys]
    unfold cmpI
    by_cases h : x < y
    · rw [if_pos h, if_neg (by decide), if_pos h]
    · rw [if_neg h, if_neg h]
      by_cases h2 : y < x
      · rw [if_pos h2, if_neg (by decide), if_pos h2]
      · rw [if_neg h2, if_pos rfl, if_neg h2]
theorem cmpLI_le : ∀ l m : List Int, -1 ≤ cmpLI l m ∧ cmpLI l m ≤ 1
  | [], [] => by decide
  | [], _ :: _ => by unfold cmpLI; decide
  | _ :: _, [] => by unfold cmpLI; decide
  | x :: xs, y :: ys => by
    unfold cmpLI
    split
    · decide
    · split
      · decide
      · exact cmpLI_le xs ys
theorem less_cmpB : ∀ l m : List UInt8, Op.bytesLess l m = decide (cmpB l m = -1)
  | [], [] => rfl
  | [], _ :: _ => rfl
  | _ :: _, [] => rfl
  | x :: xs, y :: ys => by
    unfold Op.bytesLess cmpB
    rw [less_cmpB xs ys]
    by_cases h : x < y
    · rw [if_pos h, decide_eq_true h]; rfl
    · rw [if_neg h, decide_eq_false h]
      by_cases h2 : y < x
      · have : (x == y) = false := by
          rw [beq_eq_false_iff_ne]; intro e; subst e; exact UInt8.lt_irrefl _ h2
        rw [if_pos h2, this]; rfl
      · have : x = y := UInt8.toNat_inj.1 (by
          have a : ¬ x.toNat < y.toNat := h
          have b : ¬ y.toNat < x.toNat := h2
          omega)
        rw [if_neg h2, this]; simp
theorem cmpB_eq : ∀ l m : List UInt8, cmpB l m = 0 → l = m
  | [], [], _ => rfl
  | [], _ :: _, h => by cases h
  | _ :: _, [], h => by cases h
  | x :: xs, y :: ys, h => by
    unfold cmpB at h
    by_cases h1 : x < y
    · rw [if_pos h1] at h; cases h
    · rw [if_neg h1] at h
      by_cases h2 : y < x
      · rw [if_pos h2] at h; cases h
      · rw [if_neg h2] at h
        have e : x = y := UInt8.toNat_inj.1 (by
          have a : ¬ x.toNat < y.toNat := h1
          have b : ¬ y.toNat < x.toNat := h2
          omega)
        rw [e, cmpB_eq xs ys h]
theorem gt_cmpB (l m : List UInt8) : (!(Op.bytesLess l m || l == m)) = decide (cmpB l m = 1) := by
  rw [less_cmpB]
  have hb := cmpB_le l m
  by_cases h : l = m
  · subst h
    rw [cmpB_self]; simp
  · have h0 : cmpB l m ≠ 0 := fun e => h (cmpB_eq l m e)
    have : (l == m) = false := by rw [beq_eq_false_iff_ne]; exact h
    rw [this, Bool.or_false]
    by_cases h1 : cmpB l m = -1
    · rw [h1]; rfl
    · have : cmpB l m = 1 := by omega
      rw [this]; rfl
theorem Oth.bel {b : Nat} {w wr w8 : World} (h : Oth b w wr) (k : Below w.heap.size wr w8) : Oth b w w8 :=
  ⟨k.os.trans h.os, k.tape.trans h.tape, k.output.trans h.output, Nat.le_trans h.size k.size, fun j hj hn => (k.block j hj).trans (h.block j hj hn)⟩
theorem OkS.leafS {a : Int} (h : -128 ≤ a ∧ a ≤ 127) : OkS (leafS 3 a) := ⟨rfl, ⟨none, 0, rfl, Nat.zero_le _⟩, ⟨none, 0, rfl, Nat.zero_le _⟩, rfl, by show _ ≤ a; omega, by show a ≤ _; omega⟩
theorem lf_leafS (l : List Int) : (l.map (leafS 3)).map lfV = l.map (leafV 3) := by rw [List.map_map]; rfl
set_option maxRecDepth 100000 in
set_option maxHeartbeats 25600000 in
theorem OrderLists_walk (a0 : Option Addr) (z0 : List Int) (cap0 : Nat) (a1 : Option Addr) (z1 : List Int) (cap1 : Nat) (s t : ByteArray) (w : World) (hr0 : Rd (Value.int .i8) w a0 z0) (hl0 : z0.length ≤ cap0) (hm0 : cap0 ≤ maxLen) (hwf0 : ∀ n ∈ z0, (Lit.int .i8 n).wf = true)
    (hr1 : Rd (Value.int .i8) w a1 z1) (hl1 : z1.length ≤ cap1) (hm1 : cap1 ≤ maxLen) (hwf1 : ∀ n ∈ z1, (Lit.int .i8 n).wf = true) (hs : s.size ≤ maxLen) (ht : t.size ≤ maxLen) :
    Calls Try.prog 5 #[.slice a0 z0.length cap0, .slice a1 z1.length cap1, .string s, .string t] w fun e w' => e = .returned (.bool true) ∧ Below w.heap.size w w' := by
  have HBG := Lib.hid (orbegun_of Cmp_any Normal_any Is_any Copy_any w)
  have HR0 := Lib.hid hr0
  have HR1 := Lib.hid hr1
  have hwf : ∀ z : List Int, (∀ n ∈ z, (Lit.int .i8 n).wf = true) → ∀ x ∈ z, -128 ≤ x ∧ x ≤ 127 := fun z h x hx => by
    have := h x hx
    simp [Lit.wf, IntKind.min, IntKind.max, IntKind.signed, IntKind.bits] at this
    omega
  have HW0 := Lib.hid (hwf z0 hwf0)
  have HW1 := Lib.hid (hwf z1 hwf1)
  obtain ⟨S, hS⟩ : ∃ S : List UInt8, s = ⟨S.toArray⟩ := ⟨s.data.toList, by cases s; simp⟩
  obtain ⟨T, hT⟩ : ∃ T : List UInt8, t = ⟨T.toArray⟩ := ⟨t.data.toList, by cases t; simp⟩
  have HS : Hid (s = ⟨S.toArray⟩ ∧ s.size = S.length) := ⟨hS, by rw [hS]; exact (Tx.of S).size⟩
  have HT : Hid (t = ⟨T.toArray⟩ ∧ t.size = T.length) := ⟨hT, by rw [hT]; exact (Tx.of T).size⟩
  have hlt1 : Op.bytesLess s.toList t.toList = decide (cmpB S T = -1) := by
    rw [hS, hT, (Tx.of S).toL, (Tx.of T).toL]; exact less_cmpB S T
  obtain ⟨n0, hn0⟩ : ∃ n, z0.length = n := ⟨_, rfl⟩
  obtain ⟨n1, hn1⟩ : ∃ n, z1.length = n := ⟨_, rfl⟩
  have HN0 := Lib.hid hn0
  have HN1 := Lib.hid hn1
  have hgtr : ∀ ty, binOp .gtr ty (.string s) (.string t) = pure (.bool (decide (cmpB S T = 1))) := fun ty => by
    rw [← gt_cmpB, hS, hT]
    simp only [binOp, Op.stringOp]
    rw [(Tx.of S).toL, (Tx.of T).toL]
  have HGTR := Lib.hid hgtr
  have HLT1 := Lib.hid hlt1
  rw [hn0] at hl0 ⊢
  rw [hn1] at hl1 ⊢
  have HSZ : Hid (s.size ≤ maxLen ∧ t.size ≤ maxLen) := ⟨hs, ht⟩
  clear hr0 hr1 hwf0 hwf1 hwf hS hT hn0 hn1 hlt1 hgtr hs ht
  go_enter Try.func5, Try.ntmps5
  go_wp2_with fail
  refine HBG.out.mono ?_; rintro e w1 ⟨rfl, hn1⟩
  have HNW := Lib.hid hn1
  clear hn1 HBG
  by_cases h0 : 10 < n0
  · have q1 : decide ((10 : Int) < (n0 : Int)) = true := decide_eq_true (by omega)
    have q2 : (10 : Int) < (n0 : Int) := by omega
    have q3 : decide (10 < n0) = true := decide_eq_true h0
    go_wp2_with fail
    go_ret
    exact ⟨rfl, HNW.out⟩
  have p1 : decide ((10 : Int) < (n0 : Int)) = false := decide_eq_false (by omega)
  have p2 : ¬ (10 : Int) < (n0 : Int) := by omega
  have p3 : decide (10 < n0) = false := decide_eq_false h0
  by_cases h1 : 10 < n1
  · have q1 : decide ((10 : Int) < (n1 : Int)) = true := decide_eq_true (by omega)
    have q2 : (10 : Int) < (n1 : Int) := by omega
    have q3 : decide (10 < n1) = true := decide_eq_true h1
    go_wp2_with fail
    go_ret
    exact ⟨rfl, HNW.out⟩
  have p4 : decide ((10 : Int) < (n1 : Int)) = false := decide_eq_false (by omega)
  have p5 : ¬ (10 : Int) < (n1 : Int) := by omega
  have p6 : decide (10 < n1) = false := decide_eq_false h1
  by_cases h2 : 20 < s.size
  · have q1 : decide ((20 : Int) < (s.size : Int)) = true := decide_eq_true (by omega)
    have q2 : (20 : Int) < (s.size : Int) := by omega
    have q3 : decide (20 < s.size) = true := decide_eq_true h2
    go_wp2_with fail
    go_ret
    exact ⟨rfl, HNW.out⟩
  have p7 : decide ((20 : Int) < (s.size : Int)) = false := decide_eq_false (by omega)
  have p8 : ¬ (20 : Int) < (s.size : Int) := by omega
  have p9 : decide (20 < s.size) = false := decide_eq_false h2
  by_cases h3 : 20 < t.size
  · have q1 : decide ((20 : Int) < (t.size : Int)) = true := decide_eq_true (by omega)
    have q2 : (20 : Int) < (t.size : Int) := by omega
    have q3 : decide (20 < t.size) = true := decide_eq_true h3
    go_wp2_with fail
    go_ret
    exact ⟨rfl, HNW.out⟩
  have pa : decide ((20 : Int) < (t.size : Int)) = false := decide_eq_false (by omega)
  have pb : ¬ (20 : Int) < (t.size : Int) := by omega
  have pc : decide (20 < t.size) = false := decide_eq_false h3
  have hi0 : (n0 : Int) ≤ 10 := by omega
  have hi1 : (n1 : Int) ≤ 10 := by omega
  have HI : Hid (n0 ≤ 10 ∧ n1 ≤ 10 ∧ S.length ≤ 20 ∧ T.length ≤ 20) := ⟨by omega, by omega, by rw [← HS.out.2]; omega, by rw [← HT.out.2]; omega⟩
  obtain ⟨gx, hgx⟩ : ∃ g, w1.heap.size = g := ⟨_, rfl⟩
  obtain ⟨w2, hw2⟩ : ∃ x, w1.alloc (.cells #[.int .i64 15, .int .i64 0, .string ⟨#[]⟩, .slice none 0 0, .slice none 0 0] 29) = x := ⟨_, rfl⟩
  obtain ⟨gy, hgy⟩ : ∃ g, gx + 1 = g := ⟨_, rfl⟩
  have hs2 : w2.heap.size = gy := by rw [← hw2, ← hgy, ← hgx]; exact Array.size_push _
  obtain ⟨w3, hw3⟩ : ∃ x, w2.alloc (.cells #[.int .i64 15, .int .i64 0, .string ⟨#[]⟩, .slice none 0 0, .slice none 0 0] 29) = x := ⟨_, rfl⟩
  have hbx : Blk w3 gx gx #[.int .i64 15, .int .i64 0, .string ⟨#[]⟩, .slice none 0 0, .slice none 0 0] 29 := by rw [← hw3, ← hw2, ← hgx]; exact (Blk.new w1 _ _).alloc _
  have hby : Blk w3 gy gy #[.int .i64 15, .int .i64 0, .string ⟨#[]⟩, .slice none 0 0, .slice none 0 0] 29 := by rw [← hw3, ← hs2]; exact Blk.new w2 _ _
  have HN3 : Hid (Nx w w3) := by rw [← hw3, ← hw2]; exact HNW.out.trans (nx (nx0 _ _) (nx0 _ _))
  have HBX := Lib.hid hbx
  have HBY := Lib.hid hby
  have HGG : Hid (w.heap.size ≤ gx ∧ gx < gy ∧ gy < w3.heap.size) := ⟨by rw [← hgx]; exact HNW.out.size, by omega, hby.lt⟩
  have HW2 := Lib.hid hw2
  have HW3 := Lib.hid hw3
  have HGY := Lib.hid hgy
  clear hw2 hw3 hgy hs2 hbx hby h0 h1 h2 h3
  go_upto_region 7 with (fail)
  rw [HW2.out, HW3.out, HGY.out]
  clear HW2 HW3 HGY hgx p1 p2 p3 p4 p5 p6 p7 p8 p9 pa pb pc
  go_wp2_with fail
  go_loopw [11] (fun x wr => ∃ (i : Nat) (A : Option Addr) (c : Nat), x = .int .i64 (i : Int) ∧ i ≤ n0 ∧ Hid (Blk wr gx gx #[.int .i64 15, .int .i64 0, .string ⟨#[]⟩, .slice A i c, .slice none 0 0] 29) ∧ Hid (OwnS valA 5 29 wr w3.heap.size (.slice A i c) ((z0.take i).map (leafS 3))) ∧ Hid (Oth gx w3 wr)) (fun x _ => (n0 - intOf x).toNat)
  case atStart => exact ⟨0, none, 0, rfl, Nat.zero_le _, HBX.out, OwnS.nil_ _ _, Oth.refl _ _⟩
  case round =>
    obtain ⟨i, A, c, rfl, hi, HB, HO, HT0⟩ := hrel
    have HNR : Hid (Nx w wr) := HT0.out.to HN3.out HGG.out.1
    by_cases hlt : i < n0
    · have c1 : decide ((i : Int) < (n0 : Int)) = true := decide_eq_true (by omega)
      have c2 : (i : Int) < (n0 : Int) := by omega
      have c3 : (0 : Int) ≤ (i : Int) := by omega
      have c4 : decide (i < n0) = true := decide_eq_true hlt
      have hiz : i < z0.length := by rw [HN0.out]; exact hlt
      obtain ⟨X, hX⟩ : ∃ X, z0[i] = X := ⟨_, rfl⟩
      have HXB : Hid (-128 ≤ X ∧ X ≤ 127) := hX ▸ HW0.out _ (List.getElem_mem _)
      have HTK : Hid (z0.take (i + 1) = z0.take i ++ [X]) := by unfold Hid; rw [List.take_succ_eq_append_getElem hiz, hX]
      obtain ⟨ga, oa, rfl, hga, hca⟩ := (HR0.out.below HNR.out) (by omega)
      have M1 : ∀ x : Gr wr, x.1.cell? ⟨gx, 3, none⟩ = some (.slice A i c) := fun x => (HB.out.below x.2).cell 3
      have M2 : ∀ x : Gr wr, x.1.cell? ⟨ga, oa + i, none⟩ = some (.int .i8 X) := fun x => by
        rw [x.2.cell (p := ⟨ga, oa + i, none⟩) hga, hca i hiz, hX]
      have hwx : IntKind.i64.wrap X = X := by have := HXB.out; rw [IntKind.wrap_i64]; omega
      have HLT := Lib.hid hlt
      clear hiz hX hga hca hlt
      go_upto_region 10 with (fail)
      refine EH.wp_region_hyb [9, 11] [(0, 1), (1, 1), (2, 1), (3, 1), (4, 1), (5, 1), (6, 1), (7, 1), (8, 0), (9, 0), (10, 2), (11, 0)] rfl (by kernel_rfl) ?_
      iterate 8 (refine EH.hyb_calm rfl (fun K hK => ?_); go_simp; refine hK _ ?_; clear hK K)
      clear M1 M2 hwx
      refine EH.hyb_alone rfl (fun w5 hn5 K hK => ?_)
      go_simp
      refine hK _ _ (.inr (nx0 _ _)) ?_
      clear hK K
      obtain ⟨g9, hg9⟩ : ∃ g, w5.heap.size = g := ⟨_, rfl⟩
      have hb9 : Blk (w5.alloc (.cells #[.int .i64 3, .int .i64 X, .string ⟨#[]⟩, .slice none 0 0, .slice none 0 0] 29)) g9 g9 (rowL valA [leafS 3 X]).toArray 29 := by rw [← hg9]; exact Blk.new w5 _ _
      have hn6 : Nx wr (w5.alloc (.cells #[.int .i64 3, .int .i64 X, .string ⟨#[]⟩, .slice none 0 0, .slice none 0 0] 29)) := hn5.trans (nx0 _ _)
      rw [hg9]
      generalize World.alloc w5 _ = w6 at *
      refine EH.hyb_alone rfl (fun w7 hn7 K hK => ?_)
      refine EH.ite_intro rfl ?_
      have HN7 : Hid (Nx wr w7) := hn6.trans hn7
      have hy7 : ∀ j (h : j < [leafS 3 X].length) p, p < 5 → w7.cell? ⟨g9, 0 + j * 5 + p, none⟩ = (valA [leafS 3 X][j])[p]? := by
        obtain ⟨g', off', e, h1, h2⟩ := RdO.blk' (hb9.below hn7) (by simp)
        simp only [Option.some.injEq, Addr.mk.injEq] at e
        obtain ⟨rfl, rfl, -⟩ := e
        exact h2
      refine op_appO w7 (f := valA) (k := 5) (z := valG) infoG Try.underlying25 rfl (by decide) (by decide) (fun _ => rfl) _ _ rfl w3.heap.size (.slice A i c) ((z0.take i).map (leafS 3)) [leafS 3 X] (fun y hy => by rw [List.mem_singleton.1 hy]; exact (OkS.leafS HXB.out).one) rfl (HO.out.nx HN7.out) g9 0 1 1 rfl rfl hy7 (by
        simp only [List.length_map, List.length_take, List.length_cons, List.length_nil]; have := HLT.out; have := HI.out; omega) (Nat.le_trans HT0.out.size HN7.out.size) ?_
      intro v8 w8 hown8 hbel8 hkeep8
      refine hK _ _ (.inl (by simp)) ?_
      clear hK K
      have hown8' : OwnS valA 5 29 w8 w3.heap.size v8 ((z0.take (i + 1)).map (leafS 3)) := by rw [HTK.out, List.map_append]; exact hown8
      obtain ⟨A8, c8, hv8, -, -, -⟩ := OwnS.sl valA_size hown8'
      rw [List.length_map, List.length_take, show min (i + 1) z0.length = i + 1 by have := HLT.out; have := HN0.out; omega] at hv8
      subst hv8
      have HT8 : Hid (Oth gx w3 w8) := (HT0.out.trans (Oth.nx HN7.out)).bel hbel8
      have hb8 : Blk w8 gx gx #[.int .i64 15, .int .i64 0, .string ⟨#[]⟩, .slice A i c, .slice none 0 0] 29 := ⟨Nat.le_refl _, by rw [hbel8.block gx (Nat.lt_trans HGG.out.2.1 HGG.out.2.2)]; exact (HB.out.below HN7.out).2⟩
      refine EH.hyb_pure rfl (fun K hK => ?_); go_simp; refine hK _ ?_; clear hK K
      refine EH.hyb_alone rfl (fun w9 hn9 K hK => ?_)
      have hb99 := hb8.below hn9
      have c9 : w9.cell? ⟨gx, 3, none⟩ = some (.slice A i c) := hb99.cell 3
      have f9 := hb99.free 3
      go_simp
      refine hK _ _ (.inl (by simp)) ?_
      have HBN : Hid (Blk (w9.setCell ⟨gx, 3, none⟩ (.slice A8 (i + 1) c8)) gx gx #[.int .i64 15, .int .i64 0, .string ⟨#[]⟩, .slice A8 (i + 1) c8, .slice none 0 0] 29) := hb99.put 3 _
      have HON : Hid (OwnS valA 5 29 (w9.setCell ⟨gx, 3, none⟩ (.slice A8 (i + 1) c8)) w3.heap.size (.slice A8 (i + 1) c8) ((z0.take (i + 1)).map (leafS 3))) := (hown8'.nx hn9).oth (Oth.set _ _ _ _) (Nat.lt_trans HGG.out.2.1 HGG.out.2.2)
      have HTN : Hid (Oth gx w3 (w9.setCell ⟨gx, 3, none⟩ (.slice A8 (i + 1) c8))) := (HT8.out.trans (Oth.nx hn9)).own
      clear hK K c9 f9 hb99 hb8 hown8 hown8' hbel8 hkeep8 hn5 hn6 hn7 hn9 hb9 hy7 hg9
      generalize World.setCell w9 _ _ = w10 at *
      refine EH.hyb_nil (fun w11 hn11 => ?_)
      have HB11 := Lib.hid (HBN.out.below hn11)
      have HO11 := Lib.hid (HON.out.nx hn11)
      have HT11 := Lib.hid (HTN.out.trans (Oth.nx hn11))
      clear hn11
      go_wp2_with fail
      go_roundw
      case rel => exact ⟨i + 1, A8, c8, by go_num, HLT.out, HB11.out, HO11.out, HT11.out⟩
      case measure => have := HLT.out; simp [intOf]; omega
    · have c1 : decide ((i : Int) < (n0 : Int)) = false := decide_eq_false (by omega)
      have c2 : ¬ (i : Int) < (n0 : Int) := by omega
      have c4 : decide (i < n0) = false := decide_eq_false hlt
      have hin : i = n0 := by omega
      subst hin
      clear hlt hi
      have ho := HO.out
      rw [List.take_of_length_le (by rw [HN0.out]; exact Nat.le_refl _)] at ho
      obtain ⟨Ax, hAx⟩ : ∃ a, A = a := ⟨_, rfl⟩
      rw [hAx] at HB ho
      obtain ⟨cx, hcx⟩ : ∃ a, c = a := ⟨_, rfl⟩
      rw [hcx] at HB ho
      clear HO hAx hcx
      obtain ⟨hax, hxr⟩ : (∀ g off, Ax = some ⟨g, off, none⟩ → g ≠ gy) ∧ RdO wr Ax (z0.map (leafS 3)) ∧ i ≤ cx ∧ cx ≤ maxLen := by
        refine ⟨fun g off e => ?_, ?_⟩
        · rcases ho.2 with ⟨e1, -⟩ | ⟨g', cap, cur, e1, hb, -⟩
          · simp only [Value.slice.injEq] at e1
            rw [e1.1] at e; cases e
          · simp only [Value.slice.injEq] at e1
            rw [e1.1] at e
            simp only [Option.some.injEq, Addr.mk.injEq] at e
            have := HGG.out.2.2
            omega
        · obtain ⟨A', c', e, h1, h2, h3⟩ := OwnS.sl valA_size ho
          simp only [Value.slice.injEq] at e
          obtain ⟨rfl, e2, rfl⟩ := e
          refine ⟨fun h0 => ?_, by omega, h2⟩
          obtain ⟨g, e, hg, hc⟩ := h3 h0
          exact ⟨g, 0, e, hg, fun j hj q hq => by rw [Nat.zero_add]; exact hc j hj q hq⟩
      have HAX := Lib.hid hax
      have HXR := Lib.hid hxr
      have HBX1 := Lib.hid HB.out
      have HBY1 := Lib.hid (HT0.out.blk HBY.out (by have := HGG.out.2.1; omega))
      have HNA := Lib.hid HNR.out
      have HGA : Hid (gy < wr.heap.size ∧ gx < wr.heap.size) := ⟨HBY1.out.lt, HBX1.out.lt⟩
      clear ho hax hxr HB HNR HT0 HBX HBY HN3 A c
      generalize wr = wa at *
      obtain ⟨m0, rfl⟩ : ∃ m, m = i := ⟨i, rfl⟩
      go_wp2_with fail
      go_loopw [12] (fun x wr => ∃ (i : Nat) (A : Option Addr) (c : Nat), x = .int .i64 (i : Int) ∧ i ≤ n1 ∧ Hid (Blk wr gy gy #[.int .i64 15, .int .i64 0, .string ⟨#[]⟩, .slice A i c, .slice none 0 0] 29) ∧ Hid (OwnS valA 5 29 wr wa.heap.size (.slice A i c) ((z1.take i).map (leafS 3))) ∧ Hid (Oth gy wa wr)) (fun x _ => (n1 - intOf x).toNat)
      case atStart => exact ⟨0, none, 0, rfl, Nat.zero_le _, HBY1.out, OwnS.nil_ _ _, Oth.refl _ _⟩
      case round =>
        obtain ⟨i, A, c, rfl, hi, HB, HO, HT0⟩ := hrel
        have HNR : Hid (Nx w wr) := HT0.out.to HNA.out (Nat.le_trans HGG.out.1 (Nat.le_of_lt HGG.out.2.1))
        by_cases hlt : i < n1
        · have c1 : decide ((i : Int) < (n1 : Int)) = true := decide_eq_true (by omega)
          have c2 : (i : Int) < (n1 : Int) := by omega
          have c3 : (0 : Int) ≤ (i : Int) := by omega
          have c4 : decide (i < n1) = true := decide_eq_true hlt
          have hiz : i < z1.length := by rw [HN1.out]; exact hlt
          obtain ⟨X, hX⟩ : ∃ X, z1[i] = X := ⟨_, rfl⟩
          have HXB : Hid (-128 ≤ X ∧ X ≤ 127) := hX ▸ HW1.out _ (List.getElem_mem _)
          have HTK : Hid (z1.take (i + 1) = z1.take i ++ [X]) := by unfold Hid; rw [List.take_succ_eq_append_getElem hiz, hX]
          obtain ⟨ga, oa, rfl, hga, hca⟩ := (HR1.out.below HNR.out) (by omega)
          have M1 : ∀ x : Gr wr, x.1.cell? ⟨gy, 3, none⟩ = some (.slice A i c) := fun x => (HB.out.below x.2).cell 3
          have M2 : ∀ x : Gr wr, x.1.cell? ⟨ga, oa + i, none⟩ = some (.int .i8 X) := fun x => by
            rw [x.2.cell (p := ⟨ga, oa + i, none⟩) hga, hca i hiz, hX]
          have hwx : IntKind.i64.wrap X = X := by have := HXB.out; rw [IntKind.wrap_i64]; omega
          have HLT := Lib.hid hlt
          clear hiz hX hga hca hlt
          go_upto_region 14 with (fail)
          refine EH.wp_region_hyb [9, 11] [(0, 1), (1, 1), (2, 1), (3, 1), (4, 1), (5, 1), (6, 1), (7, 1), (8, 0), (9, 0), (10, 2), (11, 0)] rfl (by kernel_rfl) ?_
          iterate 8 (refine EH.hyb_calm rfl (fun K hK => ?_); go_simp; refine hK _ ?_; clear hK K)
          clear M1 M2 hwx
          refine EH.hyb_alone rfl (fun w5 hn5 K hK => ?_)
          go_simp
          refine hK _ _ (.inr (nx0 _ _)) ?_
          clear hK K
          obtain ⟨g9, hg9⟩ : ∃ g, w5.heap.size = g := ⟨_, rfl⟩
          have hb9 : Blk (w5.alloc (.cells #[.int .i64 3, .int .i64 X, .string ⟨#[]⟩, .slice none 0 0, .slice none 0 0] 29)) g9 g9 (rowL valA [leafS 3 X]).toArray 29 := by rw [← hg9]; exact Blk.new w5 _ _
          have hn6 : Nx wr (w5.alloc (.cells #[.int .i64 3, .int .i64 X, .string ⟨#[]⟩, .slice none 0 0, .slice none 0 0] 29)) := hn5.trans (nx0 _ _)
          rw [hg9]
          generalize World.alloc w5 _ = w6 at *
          refine EH.hyb_alone rfl (fun w7 hn7 K hK => ?_)
          refine EH.ite_intro rfl ?_
          have HN7 : Hid (Nx wr w7) := hn6.trans hn7
          have hy7 : ∀ j (h : j < [leafS 3 X].length) p, p < 5 → w7.cell? ⟨g9, 0 + j * 5 + p, none⟩ = (valA [leafS 3 X][j])[p]? := by
            obtain ⟨g', off', e, h1, h2⟩ := RdO.blk' (hb9.below hn7) (by simp)
            simp only [Option.some.injEq, Addr.mk.injEq] at e
            obtain ⟨rfl, rfl, -⟩ := e
            exact h2
          refine op_appO w7 (f := valA) (k := 5) (z := valG) infoG Try.underlying25 rfl (by decide) (by decide) (fun _ => rfl) _ _ rfl wa.heap.size (.slice A i c) ((z1.take i).map (leafS 3)) [leafS 3 X] (fun y hy => by rw [List.mem_singleton.1 hy]; exact (OkS.leafS HXB.out).one) rfl (HO.out.nx HN7.out) g9 0 1 1 rfl rfl hy7 (by
            simp only [List.length_map, List.length_take, List.length_cons, List.length_nil]; have := HLT.out; have := HI.out; omega) (Nat.le_trans HT0.out.size HN7.out.size) ?_
          intro v8 w8 hown8 hbel8 hkeep8
          refine hK _ _ (.inl (by simp)) ?_
          clear hK K
          have hown8' : OwnS valA 5 29 w8 wa.heap.size v8 ((z1.take (i + 1)).map (leafS 3)) := by rw [HTK.out, List.map_append]; exact hown8
          obtain ⟨A8, c8, hv8, -, -, -⟩ := OwnS.sl valA_size hown8'
          rw [List.length_map, List.length_take, show min (i + 1) z1.length = i + 1 by have := HLT.out; have := HN1.out; omega] at hv8
          subst hv8
          have HT8 : Hid (Oth gy wa w8) := (HT0.out.trans (Oth.nx HN7.out)).bel hbel8
          have hb8 : Blk w8 gy gy #[.int .i64 15, .int .i64 0, .string ⟨#[]⟩, .slice A i c, .slice none 0 0] 29 := ⟨Nat.le_refl _, by rw [hbel8.block gy HGA.out.1]; exact (HB.out.below HN7.out).2⟩
          refine EH.hyb_pure rfl (fun K hK => ?_); go_simp; refine hK _ ?_; clear hK K
          refine EH.hyb_alone rfl (fun w9 hn9 K hK => ?_)
          have hb99 := hb8.below hn9
          have c9 : w9.cell? ⟨gy, 3, none⟩ = some (.slice A i c) := hb99.cell 3
          have f9 := hb99.free 3
          go_simp
          refine hK _ _ (.inl (by simp)) ?_
          have HBN : Hid (Blk (w9.setCell ⟨gy, 3, none⟩ (.slice A8 (i + 1) c8)) gy gy #[.int .i64 15, .int .i64 0, .string ⟨#[]⟩, .slice A8 (i + 1) c8, .slice none 0 0] 29) := hb99.put 3 _
          have HON : Hid (OwnS valA 5 29 (w9.setCell ⟨gy, 3, none⟩ (.slice A8 (i + 1) c8)) wa.heap.size (.slice A8 (i + 1) c8) ((z1.take (i + 1)).map (leafS 3))) := (hown8'.nx hn9).oth (Oth.set _ _ _ _) HGA.out.1
          have HTN : Hid (Oth gy wa (w9.setCell ⟨gy, 3, none⟩ (.slice A8 (i + 1) c8))) := (HT8.out.trans (Oth.nx hn9)).own
          clear hK K c9 f9 hb99 hb8 hown8 hown8' hbel8 hkeep8 hn5 hn6 hn7 hn9 hb9 hy7 hg9
          generalize World.setCell w9 _ _ = w10 at *
          refine EH.hyb_nil (fun w11 hn11 => ?_)
          have HB11 := Lib.hid (HBN.out.below hn11)
          have HO11 := Lib.hid (HON.out.nx hn11)
          have HT11 := Lib.hid (HTN.out.trans (Oth.nx hn11))
          clear hn11
          go_wp2_with fail
          go_roundw
          case rel => exact ⟨i + 1, A8, c8, by go_num, HLT.out, HB11.out, HO11.out, HT11.out⟩
          case measure => have := HLT.out; simp [intOf]; omega
        · have c1 : decide ((i : Int) < (n1 : Int)) = false := decide_eq_false (by omega)
          have c2 : ¬ (i : Int) < (n1 : Int) := by omega
          have c4 : decide (i < n1) = false := decide_eq_false hlt
          have hin : i = n1 := by omega
          subst hin
          clear hlt hi
          have ho := HO.out
          rw [List.take_of_length_le (by rw [HN1.out]; exact Nat.le_refl _)] at ho
          obtain ⟨Ay, hAy⟩ : ∃ a, A = a := ⟨_, rfl⟩
          rw [hAy] at HB ho
          obtain ⟨cy, hcy⟩ : ∃ a, c = a := ⟨_, rfl⟩
          rw [hcy] at HB ho
          clear HO hAy hcy
          have HRX : Hid (RdL (RdV 1 wr) wr (.slice Ax m0 cx) (z0.map (leafV 3))) := by
            have h := rdl_of (w := wr) (n := 1) (HXR.out.1.oth HT0.out HAX.out) (c := cx) (by rw [List.length_map, HN0.out]; exact HXR.out.2.1) HXR.out.2.2 (fun x hx => by
              obtain ⟨v, hv, rfl⟩ := List.mem_map.1 hx
              exact OkS.leafS (HW0.out v hv)) (fun e => by cases e)
            rw [List.length_map, HN0.out, lf_leafS] at h
            exact h
          have HRY : Hid (RdL (RdV 1 wr) wr (.slice Ay i cy) (z1.map (leafV 3))) := by
            have h := (own_rdl (n := 1) ho (fun x hx => by
              obtain ⟨v, hv, rfl⟩ := List.mem_map.1 hx
              exact OkS.leafS (HW1.out v hv)) (fun e => by cases e)).1
            rw [lf_leafS] at h
            exact h
          have HBX2 := Lib.hid (HT0.out.blk HBX1.out (by have := HGG.out.2.1; omega))
          have HBY2 := Lib.hid HB.out
          have HNB := Lib.hid HNR.out
          clear ho HAX HXR HBX1 HBY1 HB HNR HT0 HNA A c
          generalize wr = wb at *
          obtain ⟨m1, rfl⟩ : ∃ m, m = i := ⟨i, rfl⟩
          obtain ⟨R, hR⟩ : ∃ R, cmpLI z0 z1 = R := ⟨_, rfl⟩
          have HRR := Lib.hid hR
          clear hR
          go_upto_block 4 with (fail)
          go_cut [13] (fun v13 wx => ∃ W : Int, v13 = .int .i64 W ∧ Hid ((W = R ∧ (W = 0 → m0 = m1)) ∨ (W = 0 ∧ m0 < m1 ∧ R = -1) ∨ (W = 0 ∧ m1 < m0 ∧ R = 1)) ∧ Hid (Nx wb wx))
          case first =>
            go_wp2_with fail
            go_loopw [13, 14] (fun v13 v14 wr => ∃ (i : Nat) (W : Int), v13 = .int .i64 W ∧ v14 = .int .i64 (i : Int) ∧ i ≤ m0 ∧ i ≤ m1 ∧ Hid ((W = 0 ∧ cmpLI (z0.drop i) (z1.drop i) = R) ∨ (W ≠ 0 ∧ W = R)) ∧ Hid (Nx wb wr)) (fun _ v14 _ => (m0 - intOf v14).toNat)
            case atStart => exact ⟨0, 0, rfl, rfl, Nat.zero_le _, Nat.zero_le _, .inl ⟨rfl, HRR.out⟩, Nx.refl _⟩
            case round =>
              obtain ⟨i, W, rfl, rfl, hi0', hi1', HWR, HX⟩ := hrel
              by_cases hA : i < m0
              · have c1 : decide ((i : Int) < (m0 : Int)) = true := decide_eq_true (by omega)
                have c2 : (i : Int) < (m0 : Int) := by omega
                have c4 : decide (i < m0) = true := decide_eq_true hA
                by_cases hB : i < m1
                · have d1 : decide ((i : Int) < (m1 : Int)) = true := decide_eq_true (by omega)
                  have d2 : (i : Int) < (m1 : Int) := by omega
                  have d4 : decide (i < m1) = true := decide_eq_true hB
                  by_cases hW : W = 0
                  · subst hW
                    have d0 : (0 : Int) ≤ (i : Int) := by omega
                    have hwr : cmpLI (z0.drop i) (z1.drop i) = R := by
                      rcases HWR.out with h | h
                      · exact h.2
                      · exact absurd rfl h.1
                    have hi0z : i < z0.length := by rw [HN0.out]; exact hA
                    have hi1z : i < z1.length := by rw [HN1.out]; exact hB
                    obtain ⟨X, hX⟩ : ∃ X, z0[i] = X := ⟨_, rfl⟩
                    obtain ⟨Y, hY⟩ : ∃ Y, z1[i] = Y := ⟨_, rfl⟩
                    rw [cmpLI_step hi0z hi1z, hX, hY] at hwr
                    have HSTEP := Lib.hid hwr
                    obtain ⟨ga, oa, rfl, hga, hca⟩ := (HR0.out.below (HNB.out.trans HX.out)) (by omega)
                    obtain ⟨gb, ob, rfl, hgb, hcb⟩ := (HR1.out.below (HNB.out.trans HX.out)) (by omega)
                    have hcx := hca i hi0z
                    have hcy := hcb i hi1z
                    rw [hX] at hcx
                    rw [hY] at hcy
                    have HL0 := Lib.hid hA
                    have HL1 := Lib.hid hB
                    clear hwr hX hY hi0z hi1z hga hca hgb hcb hA hB
                    by_cases h1 : X < Y
                    · have e1 : decide (X < Y) = true := decide_eq_true h1
                      have e2 : decide (Y < X) = false := decide_eq_false (by omega)
                      have e3 : ¬ Y < X := by omega
                      have hR2 : R = -1 := by rw [← HSTEP.out, if_pos h1]
                      go_upto_region 19 with (fail)
                      go_quiet (fail)
                      go_upto_region 21 with (fail)
                      go_quiet (fail)
                      go_wp2_with fail
                      go_roundw
                      case rel => exact ⟨i + 1, -1, by go_num, by go_num, HL0.out, HL1.out, .inr ⟨by decide, hR2.symm⟩, HX.out.dr _⟩
                      case measure => have := HL0.out; simp [intOf]; omega
                    · have e1 : decide (X < Y) = false := decide_eq_false h1
                      by_cases h2 : Y < X
                      · have e2 : decide (Y < X) = true := decide_eq_true h2
                        have hR2 : R = 1 := by rw [← HSTEP.out, if_neg h1, if_pos h2]
                        go_upto_region 19 with (fail)
                        go_quiet (fail)
                        go_upto_region 21 with (fail)
                        go_quiet (fail)
                        go_wp2_with fail
                        go_roundw
                        case rel => exact ⟨i + 1, 1, by go_num, by go_num, HL0.out, HL1.out, .inr ⟨by decide, hR2.symm⟩, HX.out.dr _⟩
                        case measure => have := HL0.out; simp [intOf]; omega
                      · have e2 : decide (Y < X) = false := decide_eq_false h2
                        have hR2 : cmpLI (z0.drop (i + 1)) (z1.drop (i + 1)) = R := by rw [← HSTEP.out, if_neg h1, if_neg h2]
                        have HR2' := Lib.hid hR2
                        clear hR2
                        go_upto_region 19 with (fail)
                        go_quiet (fail)
                        go_upto_region 21 with (fail)
                        go_quiet (fail)
                        go_wp2_with fail
                        go_roundw
                        case rel => exact ⟨i + 1, 0, by go_num, by go_num, HL0.out, HL1.out, .inl ⟨rfl, HR2'.out⟩, HX.out.dr _⟩
                        case measure => have := HL0.out; simp [intOf]; omega
                  · have e1 : (W == 0) = false := by rw [beq_eq_false_iff_ne]; exact hW
                    have hwr : W = R := by
                      rcases HWR.out with h | h
                      · exact absurd h.1 hW
                      · exact h.2
                    have HCC : Hid ((W = R ∧ (W = 0 → m0 = m1)) ∨ (W = 0 ∧ m0 < m1 ∧ R = -1) ∨ (W = 0 ∧ m1 < m0 ∧ R = 1)) := .inl ⟨hwr, fun h => absurd h hW⟩
                    clear hW hwr
                    go_wp2_with fail
                    go_meet
                    case rel => exact ⟨W, rfl, HCC.out, HX.out⟩
                · have d1 : decide ((i : Int) < (m1 : Int)) = false := decide_eq_false (by omega)
                  have d2 : ¬ (i : Int) < (m1 : Int) := by omega
                  have d4 : decide (i < m1) = false := decide_eq_false hB
                  have HCC : Hid ((W = R ∧ (W = 0 → m0 = m1)) ∨ (W = 0 ∧ m0 < m1 ∧ R = -1) ∨ (W = 0 ∧ m1 < m0 ∧ R = 1)) := by
                    rcases HWR.out with h | h
                    · refine .inr (.inr ⟨h.1, by omega, ?_⟩)
                      rw [← h.2, List.drop_eq_getElem_cons (show i < z0.length by rw [HN0.out]; exact hA), List.drop_of_length_le (show z1.length ≤ i by rw [HN1.out]; omega)]; rfl
                    · exact .inl ⟨h.2, fun e => absurd e h.1⟩
                  go_wp2_with fail
                  go_meet
                  case rel => exact ⟨W, rfl, HCC.out, HX.out⟩
              · have c1 : decide ((i : Int) < (m0 : Int)) = false := decide_eq_false (by omega)
                have c2 : ¬ (i : Int) < (m0 : Int) := by omega
                have c4 : decide (i < m0) = false := decide_eq_false hA
                have HCC : Hid ((W = R ∧ (W = 0 → m0 = m1)) ∨ (W = 0 ∧ m0 < m1 ∧ R = -1) ∨ (W = 0 ∧ m1 < m0 ∧ R = 1)) := by
                  rcases HWR.out with h | h
                  · by_cases he : m0 = m1
                    · refine .inl ⟨?_, fun _ => he⟩
                      rw [h.1, ← h.2, List.drop_of_length_le (show z0.length ≤ i by rw [HN0.out]; omega), List.drop_of_length_le (show z1.length ≤ i by rw [HN1.out]; omega)]; rfl
                    · refine .inr (.inl ⟨h.1, by omega, ?_⟩)
                      rw [← h.2, List.drop_of_length_le (show z0.length ≤ i by rw [HN0.out]; omega), List.drop_eq_getElem_cons (show i < z1.length by rw [HN1.out]; omega)]; rfl
                  · exact .inl ⟨h.2, fun e => absurd e h.1⟩
                go_wp2_with fail
                go_meet
                case rel => exact ⟨W, rfl, HCC.out, HX.out⟩
          case rest =>
          obtain ⟨W, rfl, HCC, HXC⟩ := hcut
          have HNC := Lib.hid (HNB.out.trans HXC.out)
          have HBXC := Lib.hid (HBX2.out.below HXC.out)
          have HBYC := Lib.hid (HBY2.out.below HXC.out)
          have HRXC := Lib.hid (HRX.out.nx (fun x y h => RdV.nx HXC.out 1 h) HXC.out)
          have HRYC := Lib.hid (HRY.out.nx (fun x y h => RdV.nx HXC.out 1 h) HXC.out)
          obtain ⟨C, hC⟩ : ∃ C, cmpB S T = C := ⟨_, rfl⟩
          have HCB : Hid (-1 ≤ C ∧ C ≤ 1) := hC ▸ cmpB_le S T
          have HCE := Lib.hid hC
          have hlt1 := HLT1.out
          have hgtr := HGTR.out
          rw [hC] at hlt1 hgtr
          have HLT := Lib.hid hlt1
          have HGT := Lib.hid hgtr
          have h4 : (W ≠ 0 ∧ W = R) ∨ (W = 0 ∧ R = 0 ∧ m0 = m1) ∨ (W = 0 ∧ m0 < m1 ∧ R = -1) ∨ (W = 0 ∧ m1 < m0 ∧ R = 1) := by
            rcases HCC.out with ⟨h1, h2⟩ | h | h
            · by_cases h0 : W = 0
              · exact .inr (.inl ⟨h0, by omega, h2 h0⟩)
              · exact .inl ⟨h0, h1⟩
            · exact .inr (.inr (.inl h))
            · exact .inr (.inr (.inr h))
          clear hC hlt1 hgtr HCC HXC HNB HBX2 HBY2 HRX HRY
          rcases h4 with ⟨hW, hR⟩ | ⟨hW, hR, he⟩ | ⟨hW, hlt, hR⟩ | ⟨hW, hlt, hR⟩
          · have e1 : (W == 0) = false := by rw [beq_eq_false_iff_ne]; exact hW
            have HRW : Hid (cmpLI z0 z1 = W) := by unfold Hid; rw [hR]; exact HRR.out
            have HRB : Hid (-1 ≤ W ∧ W ≤ 1) := by rw [← HRW.out]; exact cmpLI_le z0 z1
            clear hW hR HRR
            go_upto_region 27 with (fail)
            clear e1
            have hlt1 := HLT.out
            have hgtr := HGT.out
            go_upto_if 122 with (fail)
            go_cut [15] (fun v15 wx => v15 = .int .i64 (if C = -1 then -1 else 0) ∧ wx = wc)
            case first =>
              by_cases hc : C = -1
              · have d1 : decide (C = -1) = true := decide_eq_true hc
                have d2 : (if C = -1 then (-1 : Int) else 0) = -1 := if_pos hc
                clear hc
                go_wp2_with fail
                go_meet
                case rel => first | exact ⟨rfl, rfl⟩ | exact ⟨by rw [d2], rfl⟩ | rfl
              · have d1 : decide (C = -1) = false := decide_eq_false hc
                have d2 : (if C = -1 then (-1 : Int) else 0) = 0 := if_neg hc
                clear hc
                go_wp2_with fail
                go_meet
                case rel => first | exact ⟨rfl, rfl⟩ | exact ⟨by rw [d2], rfl⟩ | rfl
            case rest =>
            obtain ⟨rfl, rfl⟩ := hcut
            obtain ⟨V15, hV15⟩ : ∃ v, (if C = -1 then (-1 : Int) else 0) = v := ⟨_, rfl⟩
            rw [hV15]
            have HV15 := Lib.hid hV15
            clear hV15 hlt1
            go_upto_if 125 with (fail)
            go_cut [15] (fun v15 wx => v15 = .int .i64 C ∧ wx = wc)
            case first =>
              by_cases hc : C = 1
              · have d1 : decide (C = 1) = true := decide_eq_true hc
                clear hgtr
                go_wp2_with fail
                go_meet
                case rel => first | exact ⟨rfl, rfl⟩ | exact ⟨by rw [hc], rfl⟩ | rw [hc] | exact hc.symm
              · have d1 : decide (C = 1) = false := decide_eq_false hc
                have d2 : V15 = C := by
                  rw [← HV15.out]
                  have := HCB.out
                  by_cases h : C = -1
                  · rw [if_pos h, h]
                  · rw [if_neg h]; omega
                clear hgtr
                go_wp2_with fail
                go_meet
                case rel => first | exact ⟨rfl, rfl⟩ | exact ⟨by rw [d2], rfl⟩ | rw [d2] | exact d2
            case rest =>
            obtain ⟨rfl, rfl⟩ := hcut
            clear hgtr HV15
            have HOKX : Hid (okV 2 (.mk 15 0 [] (z0.map (leafV 3)) [])) := leafs_okV 0 (by decide) (by decide) (by decide) (fun x hx => by have := HW0.out x hx; omega) []
            have HOKY : Hid (okV 2 (.mk 15 0 [] (z1.map (leafV 3)) [])) := leafs_okV 0 (by decide) (by decide) (by decide) (fun x hx => by have := HW1.out x hx; omega) []
            have HV2 : Hid (cmpV 2 (.mk 15 0 [] (z0.map (leafV 3)) []) (.mk 15 0 [] (z1.map (leafV 3)) []) = W) := by
              unfold Hid cmpV
              rw [if_neg (fun h => h rfl), if_neg (by decide), if_neg (by decide), if_neg (by decide), if_pos (by decide), cmpLI_val, HRW.out]
            have HCX : Hid (∀ wx, Nx wc wx → Calls Try.prog 12 #[.agg #[.int .i64 15, .int .i64 0, .string ⟨#[]⟩, .slice Ax m0 cx, .slice none 0 0], .agg #[.int .i64 15, .int .i64 0, .string ⟨#[]⟩, .slice Ay m1 cy, .slice none 0 0]] wx fun e w' => e = .returned (.int .i64 (W)) ∧ Nx wx w') := fun wx hw => by
              have h := Cmp_any 2 wx ⟨15, 0, [], .slice Ax m0 cx, .slice none 0 0⟩ ⟨15, 0, [], .slice Ay m1 cy, .slice none 0 0⟩ (.mk 15 0 [] (z0.map (leafV 3)) []) (.mk 15 0 [] (z1.map (leafV 3)) []) ⟨rfl, rfl, rfl, HRXC.out.nx (fun x y h => RdV.nx hw 1 h) hw, RdI.nil_ _⟩ ⟨rfl, rfl, rfl, HRYC.out.nx (fun x y h => RdV.nx hw 1 h) hw, RdI.nil_ _⟩ HOKX.out HOKY.out
              rw [HV2.out] at h
              exact h
            have HCY : Hid (∀ wx, Nx wc wx → Calls Try.prog 12 #[.agg #[.int .i64 15, .int .i64 0, .string ⟨#[]⟩, .slice Ay m1 cy, .slice none 0 0], .agg #[.int .i64 15, .int .i64 0, .string ⟨#[]⟩, .slice Ax m0 cx, .slice none 0 0]] wx fun e w' => e = .returned (.int .i64 (-(W))) ∧ Nx wx w') := fun wx hw => by
              have h := Cmp_any 2 wx ⟨15, 0, [], .slice Ay m1 cy, .slice none 0 0⟩ ⟨15, 0, [], .slice Ax m0 cx, .slice none 0 0⟩ (.mk 15 0 [] (z1.map (leafV 3)) []) (.mk 15 0 [] (z0.map (leafV 3)) []) ⟨rfl, rfl, rfl, HRYC.out.nx (fun x y h => RdV.nx hw 1 h) hw, RdI.nil_ _⟩ ⟨rfl, rfl, rfl, HRXC.out.nx (fun x y h => RdV.nx hw 1 h) hw, RdI.nil_ _⟩ HOKY.out HOKX.out
              rw [cmpV_neg, HV2.out] at h
              exact h
            have HCS : Hid (∀ wx, Calls Try.prog 12 #[.agg #[.int .i64 11, .int .i64 0, .string s, .slice none 0 0, .slice none 0 0], .agg #[.int .i64 11, .int .i64 0, .string t, .slice none 0 0, .slice none 0 0]] wx fun e w' => e = .returned (.int .i64 C) ∧ Nx wx w') := fun wx => by
              have hS : S.length ≤ maxLen := by have := HI.out; simp only [maxLen]; omega
              have hT : T.length ≤ maxLen := by have := HI.out; simp only [maxLen]; omega
              have h := Cmp_any 1 wx ⟨11, 0, S, .slice none 0 0, .slice none 0 0⟩ ⟨11, 0, T, .slice none 0 0, .slice none 0 0⟩ (.mk 11 0 S [] []) (.mk 11 0 T [] []) ⟨rfl, rfl, rfl, RdL.nil_ _ _, RdI.nil_ _⟩ ⟨rfl, rfl, rfl, RdL.nil_ _ _, RdI.nil_ _⟩ ⟨by decide, by decide, by decide, hS, (fun _ h => by cases h)⟩ ⟨by decide, by decide, by decide, hT, (fun _ h => by cases h)⟩
              have e : cmpV 1 (.mk 11 0 S [] []) (.mk 11 0 T [] []) = C := by
                unfold cmpV
                rw [if_neg (fun h => h rfl), if_neg (by decide), if_neg (by decide), if_pos (by decide), HCE.out]
              rw [e] at h
              rw [HS.out.1, HT.out.1]
              exact h
            have x0 : wc.cell? ⟨gx, 0, none⟩ = some (.int .i64 15) := HBXC.out.cell 0
            have x1 : wc.cell? ⟨gx, 1, none⟩ = some (.int .i64 0) := HBXC.out.cell 1
            have x2 : wc.cell? ⟨gx, 2, none⟩ = some (.string ⟨#[]⟩) := HBXC.out.cell 2
            have x3 : wc.cell? ⟨gx, 3, none⟩ = some (.slice Ax m0 cx) := HBXC.out.cell 3
            have x4 : wc.cell? ⟨gx, 4, none⟩ = some (.slice none 0 0) := HBXC.out.cell 4
            have y0 : wc.cell? ⟨gy, 0, none⟩ = some (.int .i64 15) := HBYC.out.cell 0
            have y1 : wc.cell? ⟨gy, 1, none⟩ = some (.int .i64 0) := HBYC.out.cell 1
            have y2 : wc.cell? ⟨gy, 2, none⟩ = some (.string ⟨#[]⟩) := HBYC.out.cell 2
            have y3 : wc.cell? ⟨gy, 3, none⟩ = some (.slice Ay m1 cy) := HBYC.out.cell 3
            have y4 : wc.cell? ⟨gy, 4, none⟩ = some (.slice none 0 0) := HBYC.out.cell 4
            have hng1 : IntKind.i64.wrap (-W) = -W := by have := HRB.out; rw [IntKind.wrap_i64]; omega
            have hng2 : wrap64 (-W) = -W := by have := HRB.out; simp only [wrap64]; omega
            go_wp2_with fail
            refine (HCX.out wc (Nx.refl _)).mono ?_; rintro e w5 ⟨rfl, hn5⟩
            have HK5 := Lib.hid hn5
            clear x0 x1 x2 x3 x4 y0 y1 y2 y3 y4 hn5
            have x0 : w5.cell? ⟨gx, 0, none⟩ = some (.int .i64 15) := (HBXC.out.below HK5.out).cell 0
            have x1 : w5.cell? ⟨gx, 1, none⟩ = some (.int .i64 0) := (HBXC.out.below HK5.out).cell 1
            have x2 : w5.cell? ⟨gx, 2, none⟩ = some (.string ⟨#[]⟩) := (HBXC.out.below HK5.out).cell 2
            have x3 : w5.cell? ⟨gx, 3, none⟩ = some (.slice Ax m0 cx) := (HBXC.out.below HK5.out).cell 3
            have x4 : w5.cell? ⟨gx, 4, none⟩ = some (.slice none 0 0) := (HBXC.out.below HK5.out).cell 4
            have y0 : w5.cell? ⟨gy, 0, none⟩ = some (.int .i64 15) := (HBYC.out.below HK5.out).cell 0
            have y1 : w5.cell? ⟨gy, 1, none⟩ = some (.int .i64 0) := (HBYC.out.below HK5.out).cell 1
            have y2 : w5.cell? ⟨gy, 2, none⟩ = some (.string ⟨#[]⟩) := (HBYC.out.below HK5.out).cell 2
            have y3 : w5.cell? ⟨gy, 3, none⟩ = some (.slice Ay m1 cy) := (HBYC.out.below HK5.out).cell 3
            have y4 : w5.cell? ⟨gy, 4, none⟩ = some (.slice none 0 0) := (HBYC.out.below HK5.out).cell 4
            go_wp2_with fail
            refine (HCY.out w5 HK5.out).mono ?_; rintro e w6 ⟨rfl, hn6⟩
            have HK6 := Lib.hid hn6
            clear x0 x1 x2 x3 x4 y0 y1 y2 y3 y4 hn6
            go_wp2_with fail
            refine (HCS.out w6).mono ?_; rintro e w7 ⟨rfl, hn7⟩
            have HK7 := Lib.hid (HNC.out.trans (HK5.out.trans (HK6.out.trans hn7)))
            clear hn7
            go_wp2_with fail
            go_ret
            exact ⟨rfl, HK7.out⟩
          · have e1 : ((m0 : Int) == (m1 : Int)) = true := by rw [he]; simp
            have e2 : (m0 == m1) = true := by rw [he]; simp
            have HRW : Hid (cmpLI z0 z1 = 0) := by unfold Hid; rw [← hR]; exact HRR.out
            subst hW
            clear hR HRR he
            go_upto_region 27 with (fail)
            clear e1 e2
            have hlt1 := HLT.out
            have hgtr := HGT.out
            go_upto_if 122 with (fail)
            go_cut [15] (fun v15 wx => v15 = .int .i64 (if C = -1 then -1 else 0) ∧ wx = wc)
            case first =>
              by_cases hc : C = -1
              · have d1 : decide (C = -1) = true := decide_eq_true hc
                have d2 : (if C = -1 then (-1 : Int) else 0) = -1 := if_pos hc
                clear hc
                go_wp2_with fail
                go_meet
                case rel => first | exact ⟨rfl, rfl⟩ | exact ⟨by rw [d2], rfl⟩ | rfl
              · have d1 : decide (C = -1) = false := decide_eq_false hc
                have d2 : (if C = -1 then (-1 : Int) else 0) = 0 := if_neg hc
                clear hc
                go_wp2_with fail
                go_meet
                case rel => first | exact ⟨rfl, rfl⟩ | exact ⟨by rw [d2], rfl⟩ | rfl
            case rest =>
            obtain ⟨rfl, rfl⟩ := hcut
            obtain ⟨V15, hV15⟩ : ∃ v, (if C = -1 then (-1 : Int) else 0) = v := ⟨_, rfl⟩
            rw [hV15]
            have HV15 := Lib.hid hV15
            clear hV15 hlt1
            go_upto_if 125 with (fail)
            go_cut [15] (fun v15 wx => v15 = .int .i64 C ∧ wx = wc)
            case first =>
              by_cases hc : C = 1
              · have d1 : decide (C = 1) = true := decide_eq_true hc
                clear hgtr
                go_wp2_with fail
                go_meet
                case rel => first | exact ⟨rfl, rfl⟩ | exact ⟨by rw [hc], rfl⟩ | rw [hc] | exact hc.symm
              · have d1 : decide (C = 1) = false := decide_eq_false hc
                have d2 : V15 = C := by
                  rw [← HV15.out]
                  have := HCB.out
                  by_cases h : C = -1
                  · rw [if_pos h, h]
                  · rw [if_neg h]; omega
                clear hgtr
                go_wp2_with fail
                go_meet
                case rel => first | exact ⟨rfl, rfl⟩ | exact ⟨by rw [d2], rfl⟩ | rw [d2] | exact d2
            case rest =>
            obtain ⟨rfl, rfl⟩ := hcut
            clear hgtr HV15
            have HOKX : Hid (okV 2 (.mk 15 0 [] (z0.map (leafV 3)) [])) := leafs_okV 0 (by decide) (by decide) (by decide) (fun x hx => by have := HW0.out x hx; omega) []
            have HOKY : Hid (okV 2 (.mk 15 0 [] (z1.map (leafV 3)) [])) := leafs_okV 0 (by decide) (by decide) (by decide) (fun x hx => by have := HW1.out x hx; omega) []
            have HV2 : Hid (cmpV 2 (.mk 15 0 [] (z0.map (leafV 3)) []) (.mk 15 0 [] (z1.map (leafV 3)) []) = 0) := by
              unfold Hid cmpV
              rw [if_neg (fun h => h rfl), if_neg (by decide), if_neg (by decide), if_neg (by decide), if_pos (by decide), cmpLI_val, HRW.out]
            have HCX : Hid (∀ wx, Nx wc wx → Calls Try.prog 12 #[.agg #[.int .i64 15, .int .i64 0, .string ⟨#[]⟩, .slice Ax m0 cx, .slice none 0 0], .agg #[.int .i64 15, .int .i64 0, .string ⟨#[]⟩, .slice Ay m1 cy, .slice none 0 0]] wx fun e w' => e = .returned (.int .i64 (0)) ∧ Nx wx w') := fun wx hw => by
              have h := Cmp_any 2 wx ⟨15, 0, [], .slice Ax m0 cx, .slice none 0 0⟩ ⟨15, 0, [], .slice Ay m1 cy, .slice none 0 0⟩ (.mk 15 0 [] (z0.map (leafV 3)) []) (.mk 15 0 [] (z1.map (leafV 3)) []) ⟨rfl, rfl, rfl, HRXC.out.nx (fun x y h => RdV.nx hw 1 h) hw, RdI.nil_ _⟩ ⟨rfl, rfl, rfl, HRYC.out.nx (fun x y h => RdV.nx hw 1 h) hw, RdI.nil_ _⟩ HOKX.out HOKY.out
              rw [HV2.out] at h
              exact h
            have HCY : Hid (∀ wx, Nx wc wx → Calls Try.prog 12 #[.agg #[.int .i64 15, .int .i64 0, .string ⟨#[]⟩, .slice Ay m1 cy, .slice none 0 0], .agg #[.int .i64 15, .int .i64 0, .string ⟨#[]⟩, .slice Ax m0 cx, .slice none 0 0]] wx fun e w' => e = .returned (.int .i64 (-(0))) ∧ Nx wx w') := fun wx hw => by
              have h := Cmp_any 2 wx ⟨15, 0, [], .slice Ay m1 cy, .slice none 0 0⟩ ⟨15, 0, [], .slice Ax m0 cx, .slice none 0 0⟩ (.mk 15 0 [] (z1.map (leafV 3)) []) (.mk 15 0 [] (z0.map (leafV 3)) []) ⟨rfl, rfl, rfl, HRYC.out.nx (fun x y h => RdV.nx hw 1 h) hw, RdI.nil_ _⟩ ⟨rfl, rfl, rfl, HRXC.out.nx (fun x y h => RdV.nx hw 1 h) hw, RdI.nil_ _⟩ HOKY.out HOKX.out
              rw [cmpV_neg, HV2.out] at h
              exact h
            have HCS : Hid (∀ wx, Calls Try.prog 12 #[.agg #[.int .i64 11, .int .i64 0, .string s, .slice none 0 0, .slice none 0 0], .agg #[.int .i64 11, .int .i64 0, .string t, .slice none 0 0, .slice none 0 0]] wx fun e w' => e = .returned (.int .i64 C) ∧ Nx wx w') := fun wx => by
              have hS : S.length ≤ maxLen := by have := HI.out; simp only [maxLen]; omega
              have hT : T.length ≤ maxLen := by have := HI.out; simp only [maxLen]; omega
              have h := Cmp_any 1 wx ⟨11, 0, S, .slice none 0 0, .slice none 0 0⟩ ⟨11, 0, T, .slice none 0 0, .slice none 0 0⟩ (.mk 11 0 S [] []) (.mk 11 0 T [] []) ⟨rfl, rfl, rfl, RdL.nil_ _ _, RdI.nil_ _⟩ ⟨rfl, rfl, rfl, RdL.nil_ _ _, RdI.nil_ _⟩ ⟨by decide, by decide, by decide, hS, (fun _ h => by cases h)⟩ ⟨by decide, by decide, by decide, hT, (fun _ h => by cases h)⟩
              have e : cmpV 1 (.mk 11 0 S [] []) (.mk 11 0 T [] []) = C := by
                unfold cmpV
                rw [if_neg (fun h => h rfl), if_neg (by decide), if_neg (by decide), if_pos (by decide), HCE.out]
              rw [e] at h
              rw [HS.out.1, HT.out.1]
              exact h
            have x0 : wc.cell? ⟨gx, 0, none⟩ = some (.int .i64 15) := HBXC.out.cell 0
            have x1 : wc.cell? ⟨gx, 1, none⟩ = some (.int .i64 0) := HBXC.out.cell 1
            have x2 : wc.cell? ⟨gx, 2, none⟩ = some (.string ⟨#[]⟩) := HBXC.out.cell 2
            have x3 : wc.cell? ⟨gx, 3, none⟩ = some (.slice Ax m0 cx) := HBXC.out.cell 3
            have x4 : wc.cell? ⟨gx, 4, none⟩ = some (.slice none 0 0) := HBXC.out.cell 4
            have y0 : wc.cell? ⟨gy, 0, none⟩ = some (.int .i64 15) := HBYC.out.cell 0
            have y1 : wc.cell? ⟨gy, 1, none⟩ = some (.int .i64 0) := HBYC.out.cell 1
            have y2 : wc.cell? ⟨gy, 2, none⟩ = some (.string ⟨#[]⟩) := HBYC.out.cell 2
            have y3 : wc.cell? ⟨gy, 3, none⟩ = some (.slice Ay m1 cy) := HBYC.out.cell 3
            have y4 : wc.cell? ⟨gy, 4, none⟩ = some (.slice none 0 0) := HBYC.out.cell 4

            go_wp2_with fail
            refine (HCX.out wc (Nx.refl _)).mono ?_; rintro e w5 ⟨rfl, hn5⟩
            have HK5 := Lib.hid hn5
            clear x0 x1 x2 x3 x4 y0 y1 y2 y3 y4 hn5
            have x0 : w5.cell? ⟨gx, 0, none⟩ = some (.int .i64 15) := (HBXC.out.below HK5.out).cell 0
            have x1 : w5.cell? ⟨gx, 1, none⟩ = some (.int .i64 0) := (HBXC.out.below HK5.out).cell 1
            have x2 : w5.cell? ⟨gx, 2, none⟩ = some (.string ⟨#[]⟩) := (HBXC.out.below HK5.out).cell 2
            have x3 : w5.cell? ⟨gx, 3, none⟩ = some (.slice Ax m0 cx) := (HBXC.out.below HK5.out).cell 3
            have x4 : w5.cell? ⟨gx, 4, none⟩ = some (.slice none 0 0) := (HBXC.out.below HK5.out).cell 4
            have y0 : w5.cell? ⟨gy, 0, none⟩ = some (.int .i64 15) := (HBYC.out.below HK5.out).cell 0
            have y1 : w5.cell? ⟨gy, 1, none⟩ = some (.int .i64 0) := (HBYC.out.below HK5.out).cell 1
            have y2 : w5.cell? ⟨gy, 2, none⟩ = some (.string ⟨#[]⟩) := (HBYC.out.below HK5.out).cell 2
            have y3 : w5.cell? ⟨gy, 3, none⟩ = some (.slice Ay m1 cy) := (HBYC.out.below HK5.out).cell 3
            have y4 : w5.cell? ⟨gy, 4, none⟩ = some (.slice none 0 0) := (HBYC.out.below HK5.out).cell 4
            go_wp2_with fail
            refine (HCY.out w5 HK5.out).mono ?_; rintro e w6 ⟨rfl, hn6⟩
            have HK6 := Lib.hid hn6
            clear x0 x1 x2 x3 x4 y0 y1 y2 y3 y4 hn6
            go_wp2_with fail
            refine (HCS.out w6).mono ?_; rintro e w7 ⟨rfl, hn7⟩
            have HK7 := Lib.hid (HNC.out.trans (HK5.out.trans (HK6.out.trans hn7)))
            clear hn7
            go_wp2_with fail
            go_ret
            exact ⟨rfl, HK7.out⟩
          · have e1 : ((m0 : Int) == (m1 : Int)) = false := by rw [beq_eq_false_iff_ne]; omega
            have e2 : (m0 == m1) = false := by rw [beq_eq_false_iff_ne]; omega
            have e3 : decide ((m0 : Int) < (m1 : Int)) = true := decide_eq_true (by omega)
            have e4 : (m0 : Int) < (m1 : Int) := by omega
            have e5 : decide (m0 < m1) = true := decide_eq_true (by omega)
            have HRW : Hid (cmpLI z0 z1 = -1) := by unfold Hid; rw [← hR]; exact HRR.out
            subst hW
            clear hR HRR hlt
            go_upto_region 27 with (fail)
            clear e1 e2 e3 e4 e5
            have hlt1 := HLT.out
            have hgtr := HGT.out
            go_upto_if 122 with (fail)
            go_cut [15] (fun v15 wx => v15 = .int .i64 (if C = -1 then -1 else 0) ∧ wx = wc)
            case first =>
              by_cases hc : C = -1
              · have d1 : decide (C = -1) = true := decide_eq_true hc
                have d2 : (if C = -1 then (-1 : Int) else 0) = -1 := if_pos hc
                clear hc
                go_wp2_with fail
                go_meet
                case rel => first | exact ⟨rfl, rfl⟩ | exact ⟨by rw [d2], rfl⟩ | rfl
              · have d1 : decide (C = -1) = false := decide_eq_false hc
                have d2 : (if C = -1 then (-1 : Int) else 0) = 0 := if_neg hc
                clear hc
                go_wp2_with fail
                go_meet
                case rel => first | exact ⟨rfl, rfl⟩ | exact ⟨by rw [d2], rfl⟩ | rfl
            case rest =>
            obtain ⟨rfl, rfl⟩ := hcut
            obtain ⟨V15, hV15⟩ : ∃ v, (if C = -1 then (-1 : Int) else 0) = v := ⟨_, rfl⟩
            rw [hV15]
            have HV15 := Lib.hid hV15
            clear hV15 hlt1
            go_upto_if 125 with (fail)
            go_cut [15] (fun v15 wx => v15 = .int .i64 C ∧ wx = wc)
            case first =>
              by_cases hc : C = 1
              · have d1 : decide (C = 1) = true := decide_eq_true hc
                clear hgtr
                go_wp2_with fail
                go_meet
                case rel => first | exact ⟨rfl, rfl⟩ | exact ⟨by rw [hc], rfl⟩ | rw [hc] | exact hc.symm
              · have d1 : decide (C = 1) = false := decide_eq_false hc
                have d2 : V15 = C := by
                  rw [← HV15.out]
                  have := HCB.out
                  by_cases h : C = -1
                  · rw [if_pos h, h]
                  · rw [if_neg h]; omega
                clear hgtr
                go_wp2_with fail
                go_meet
                case rel => first | exact ⟨rfl, rfl⟩ | exact ⟨by rw [d2], rfl⟩ | rw [d2] | exact d2
            case rest =>
            obtain ⟨rfl, rfl⟩ := hcut
            clear hgtr HV15
            have HOKX : Hid (okV 2 (.mk 15 0 [] (z0.map (leafV 3)) [])) := leafs_okV 0 (by decide) (by decide) (by decide) (fun x hx => by have := HW0.out x hx; omega) []
            have HOKY : Hid (okV 2 (.mk 15 0 [] (z1.map (leafV 3)) [])) := leafs_okV 0 (by decide) (by decide) (by decide) (fun x hx => by have := HW1.out x hx; omega) []
            have HV2 : Hid (cmpV 2 (.mk 15 0 [] (z0.map (leafV 3)) []) (.mk 15 0 [] (z1.map (leafV 3)) []) = (-1)) := by
              unfold Hid cmpV
              rw [if_neg (fun h => h rfl), if_neg (by decide), if_neg (by decide), if_neg (by decide), if_pos (by decide), cmpLI_val, HRW.out]
            have HCX : Hid (∀ wx, Nx wc wx → Calls Try.prog 12 #[.agg #[.int .i64 15, .int .i64 0, .string ⟨#[]⟩, .slice Ax m0 cx, .slice none 0 0], .agg #[.int .i64 15, .int .i64 0, .string ⟨#[]⟩, .slice Ay m1 cy, .slice none 0 0]] wx fun e w' => e = .returned (.int .i64 ((-1))) ∧ Nx wx w') := fun wx hw => by
              have h := Cmp_any 2 wx ⟨15, 0, [], .slice Ax m0 cx, .slice none 0 0⟩ ⟨15, 0, [], .slice Ay m1 cy, .slice none 0 0⟩ (.mk 15 0 [] (z0.map (leafV 3)) []) (.mk 15 0 [] (z1.map (leafV 3)) []) ⟨rfl, rfl, rfl, HRXC.out.nx (fun x y h => RdV.nx hw 1 h) hw, RdI.nil_ _⟩ ⟨rfl, rfl, rfl, HRYC.out.nx (fun x y h => RdV.nx hw 1 h) hw, RdI.nil_ _⟩ HOKX.out HOKY.out
              rw [HV2.out] at h
              exact h
            have HCY : Hid (∀ wx, Nx wc wx → Calls Try.prog 12 #[.agg #[.int .i64 15, .int .i64 0, .string ⟨#[]⟩, .slice Ay m1 cy, .slice none 0 0], .agg #[.int .i64 15, .int .i64 0, .string ⟨#[]⟩, .slice Ax m0 cx, .slice none 0 0]] wx fun e w' => e = .returned (.int .i64 (-((-1)))) ∧ Nx wx w') := fun wx hw => by
              have h := Cmp_any 2 wx ⟨15, 0, [], .slice Ay m1 cy, .slice none 0 0⟩ ⟨15, 0, [], .slice Ax m0 cx, .slice none 0 0⟩ (.mk 15 0 [] (z1.map (leafV 3)) []) (.mk 15 0 [] (z0.map (leafV 3)) []) ⟨rfl, rfl, rfl, HRYC.out.nx (fun x y h => RdV.nx hw 1 h) hw, RdI.nil_ _⟩ ⟨rfl, rfl, rfl, HRXC.out.nx (fun x y h => RdV.nx hw 1 h) hw, RdI.nil_ _⟩ HOKY.out HOKX.out
              rw [cmpV_neg, HV2.out] at h
              exact h
            have HCS : Hid (∀ wx, Calls Try.prog 12 #[.agg #[.int .i64 11, .int .i64 0, .string s, .slice none 0 0, .slice none 0 0], .agg #[.int .i64 11, .int .i64 0, .string t, .slice none 0 0, .slice none 0 0]] wx fun e w' => e = .returned (.int .i64 C) ∧ Nx wx w') := fun wx => by
              have hS : S.length ≤ maxLen := by have := HI.out; simp only [maxLen]; omega
              have hT : T.length ≤ maxLen := by have := HI.out; simp only [maxLen]; omega
              have h := Cmp_any 1 wx ⟨11, 0, S, .slice none 0 0, .slice none 0 0⟩ ⟨11, 0, T, .slice none 0 0, .slice none 0 0⟩ (.mk 11 0 S [] []) (.mk 11 0 T [] []) ⟨rfl, rfl, rfl, RdL.nil_ _ _, RdI.nil_ _⟩ ⟨rfl, rfl, rfl, RdL.nil_ _ _, RdI.nil_ _⟩ ⟨by decide, by decide, by decide, hS, (fun _ h => by cases h)⟩ ⟨by decide, by decide, by decide, hT, (fun _ h => by cases h)⟩
              have e : cmpV 1 (.mk 11 0 S [] []) (.mk 11 0 T [] []) = C := by
                unfold cmpV
                rw [if_neg (fun h => h rfl), if_neg (by decide), if_neg (by decide), if_pos (by decide), HCE.out]
              rw [e] at h
              rw [HS.out.1, HT.out.1]
              exact h
            have x0 : wc.cell? ⟨gx, 0, none⟩ = some (.int .i64 15) := HBXC.out.cell 0
            have x1 : wc.cell? ⟨gx, 1, none⟩ = some (.int .i64 0) := HBXC.out.cell 1
            have x2 : wc.cell? ⟨gx, 2, none⟩ = some (.string ⟨#[]⟩) := HBXC.out.cell 2
            have x3 : wc.cell? ⟨gx, 3, none⟩ = some (.slice Ax m0 cx) := HBXC.out.cell 3
            have x4 : wc.cell? ⟨gx, 4, none⟩ = some (.slice none 0 0) := HBXC.out.cell 4
            have y0 : wc.cell? ⟨gy, 0, none⟩ = some (.int .i64 15) := HBYC.out.cell 0
            have y1 : wc.cell? ⟨gy, 1, none⟩ = some (.int .i64 0) := HBYC.out.cell 1
            have y2 : wc.cell? ⟨gy, 2, none⟩ = some (.string ⟨#[]⟩) := HBYC.out.cell 2
            have y3 : wc.cell? ⟨gy, 3, none⟩ = some (.slice Ay m1 cy) := HBYC.out.cell 3
            have y4 : wc.cell? ⟨gy, 4, none⟩ = some (.slice none 0 0) := HBYC.out.cell 4

            go_wp2_with fail
            refine (HCX.out wc (Nx.refl _)).mono ?_; rintro e w5 ⟨rfl, hn5⟩
            have HK5 := Lib.hid hn5
            clear x0 x1 x2 x3 x4 y0 y1 y2 y3 y4 hn5
            have x0 : w5.cell? ⟨gx, 0, none⟩ = some (.int .i64 15) := (HBXC.out.below HK5.out).cell 0
            have x1 : w5.cell? ⟨gx, 1, none⟩ = some (.int .i64 0) := (HBXC.out.below HK5.out).cell 1
            have x2 : w5.cell? ⟨gx, 2, none⟩ = some (.string ⟨#[]⟩) := (HBXC.out.below HK5.out).cell 2
            have x3 : w5.cell? ⟨gx, 3, none⟩ = some (.slice Ax m0 cx) := (HBXC.out.below HK5.out).cell 3
            have x4 : w5.cell? ⟨gx, 4, none⟩ = some (.slice none 0 0) := (HBXC.out.below HK5.out).cell 4
            have y0 : w5.cell? ⟨gy, 0, none⟩ = some (.int .i64 15) := (HBYC.out.below HK5.out).cell 0
            have y1 : w5.cell? ⟨gy, 1, none⟩ = some (.int .i64 0) := (HBYC.out.below HK5.out).cell 1
            have y2 : w5.cell? ⟨gy, 2, none⟩ = some (.string ⟨#[]⟩) := (HBYC.out.below HK5.out).cell 2
            have y3 : w5.cell? ⟨gy, 3, none⟩ = some (.slice Ay m1 cy) := (HBYC.out.below HK5.out).cell 3
            have y4 : w5.cell? ⟨gy, 4, none⟩ = some (.slice none 0 0) := (HBYC.out.below HK5.out).cell 4
            go_wp2_with fail
            refine (HCY.out w5 HK5.out).mono ?_; rintro e w6 ⟨rfl, hn6⟩
            have HK6 := Lib.hid hn6
            clear x0 x1 x2 x3 x4 y0 y1 y2 y3 y4 hn6
            go_wp2_with fail
            refine (HCS.out w6).mono ?_; rintro e w7 ⟨rfl, hn7⟩
            have HK7 := Lib.hid (HNC.out.trans (HK5.out.trans (HK6.out.trans hn7)))
            clear hn7
            go_wp2_with fail
            go_ret
            exact ⟨rfl, HK7.out⟩
          · have e1 : ((m0 : Int) == (m1 : Int)) = false := by rw [beq_eq_false_iff_ne]; omega
            have e2 : (m0 == m1) = false := by rw [beq_eq_false_iff_ne]; omega
            have e3 : decide ((m0 : Int) < (m1 : Int)) = false := decide_eq_false (by omega)
            have e4 : ¬ (m0 : Int) < (m1 : Int) := by omega
            have e5 : decide (m0 < m1) = false := decide_eq_false (by omega)
            have HRW : Hid (cmpLI z0 z1 = 1) := by unfold Hid; rw [← hR]; exact HRR.out
            subst hW
            clear hR HRR hlt
            go_upto_region 27 with (fail)
            clear e1 e2 e3 e4 e5
            have hlt1 := HLT.out
            have hgtr := HGT.out
            go_upto_if 122 with (fail)
            go_cut [15] (fun v15 wx => v15 = .int .i64 (if C = -1 then -1 else 0) ∧ wx = wc)
            case first =>
              by_cases hc : C = -1
              · have d1 : decide (C = -1) = true := decide_eq_true hc
                have d2 : (if C = -1 then (-1 : Int) else 0) = -1 := if_pos hc
                clear hc
                go_wp2_with fail
                go_meet
                case rel => first | exact ⟨rfl, rfl⟩ | exact ⟨by rw [d2], rfl⟩ | rfl
              · have d1 : decide (C = -1) = false := decide_eq_false hc
                have d2 : (if C = -1 then (-1 : Int) else 0) = 0 := if_neg hc
                clear hc
                go_wp2_with fail
                go_meet
                case rel => first | exact ⟨rfl, rfl⟩ | exact ⟨by rw [d2], rfl⟩ | rfl
            case rest =>
            obtain ⟨rfl, rfl⟩ := hcut
            obtain ⟨V15, hV15⟩ : ∃ v, (if C = -1 then (-1 : Int) else 0) = v := ⟨_, rfl⟩
            rw [hV15]
            have HV15 := Lib.hid hV15
            clear hV15 hlt1
            go_upto_if 125 with (fail)
            go_cut [15] (fun v15 wx => v15 = .int .i64 C ∧ wx = wc)
            case first =>
              by_cases hc : C = 1
              · have d1 : decide (C = 1) = true := decide_eq_true hc
                clear hgtr
                go_wp2_with fail
                go_meet
                case rel => first | exact ⟨rfl, rfl⟩ | exact ⟨by rw [hc], rfl⟩ | rw [hc] | exact hc.symm
              · have d1 : decide (C = 1) = false := decide_eq_false hc
                have d2 : V15 = C := by
                  rw [← HV15.out]
                  have := HCB.out
                  by_cases h : C = -1
                  · rw [if_pos h, h]
                  · rw [if_neg h]; omega
                clear hgtr
                go_wp2_with fail
                go_meet
                case rel => first | exact ⟨rfl, rfl⟩ | exact ⟨by rw [d2], rfl⟩ | rw [d2] | exact d2
            case rest =>
            obtain ⟨rfl, rfl⟩ := hcut
            clear hgtr HV15
            have HOKX : Hid (okV 2 (.mk 15 0 [] (z0.map (leafV 3)) [])) := leafs_okV 0 (by decide) (by decide) (by decide) (fun x hx => by have := HW0.out x hx; omega) []
            have HOKY : Hid (okV 2 (.mk 15 0 [] (z1.map (leafV 3)) [])) := leafs_okV 0 (by decide) (by decide) (by decide) (fun x hx => by have := HW1.out x hx; omega) []
            have HV2 : Hid (cmpV 2 (.mk 15 0 [] (z0.map (leafV 3)) []) (.mk 15 0 [] (z1.map (leafV 3)) []) = 1) := by
              unfold Hid cmpV
              rw [if_neg (fun h => h rfl), if_neg (by decide), if_neg (by decide), if_neg (by decide), if_pos (by decide), cmpLI_val, HRW.out]
            have HCX : Hid (∀ wx, Nx wc wx → Calls Try.prog 12 #[.agg #[.int .i64 15, .int .i64 0, .string ⟨#[]⟩, .slice Ax m0 cx, .slice none 0 0], .agg #[.int .i64 15, .int .i64 0, .string ⟨#[]⟩, .slice Ay m1 cy, .slice none 0 0]] wx fun e w' => e = .returned (.int .i64 (1)) ∧ Nx wx w') := fun wx hw => by
              have h := Cmp_any 2 wx ⟨15, 0, [], .slice Ax m0 cx, .slice none 0 0⟩ ⟨15, 0, [], .slice Ay m1 cy, .slice none 0 0⟩ (.mk 15 0 [] (z0.map (leafV 3)) []) (.mk 15 0 [] (z1.map (leafV 3)) []) ⟨rfl, rfl, rfl, HRXC.out.nx (fun x y h => RdV.nx hw 1 h) hw, RdI.nil_ _⟩ ⟨rfl, rfl, rfl, HRYC.out.nx (fun x y h => RdV.nx hw 1 h) hw, RdI.nil_ _⟩ HOKX.out HOKY.out
              rw [HV2.out] at h
              exact h
            have HCY : Hid (∀ wx, Nx wc wx → Calls Try.prog 12 #[.agg #[.int .i64 15, .int .i64 0, .string ⟨#[]⟩, .slice Ay m1 cy, .slice none 0 0], .agg #[.int .i64 15, .int .i64 0, .string ⟨#[]⟩, .slice Ax m0 cx, .slice none 0 0]] wx fun e w' => e = .returned (.int .i64 (-(1))) ∧ Nx wx w') := fun wx hw => by
              have h := Cmp_any 2 wx ⟨15, 0, [], .slice Ay m1 cy, .slice none 0 0⟩ ⟨15, 0, [], .slice Ax m0 cx, .slice none 0 0⟩ (.mk 15 0 [] (z1.map (leafV 3)) []) (.mk 15 0 [] (z0.map (leafV 3)) []) ⟨rfl, rfl, rfl, HRYC.out.nx (fun x y h => RdV.nx hw 1 h) hw, RdI.nil_ _⟩ ⟨rfl, rfl, rfl, HRXC.out.nx (fun x y h => RdV.nx hw 1 h) hw, RdI.nil_ _⟩ HOKY.out HOKX.out
              rw [cmpV_neg, HV2.out] at h
              exact h
            have HCS : Hid (∀ wx, Calls Try.prog 12 #[.agg #[.int .i64 11, .int .i64 0, .string s, .slice none 0 0, .slice none 0 0], .agg #[.int .i64 11, .int .i64 0, .string t, .slice none 0 0, .slice none 0 0]] wx fun e w' => e = .returned (.int .i64 C) ∧ Nx wx w') := fun wx => by
              have hS : S.length ≤ maxLen := by have := HI.out; simp only [maxLen]; omega
              have hT : T.length ≤ maxLen := by have := HI.out; simp only [maxLen]; omega
              have h := Cmp_any 1 wx ⟨11, 0, S, .slice none 0 0, .slice none 0 0⟩ ⟨11, 0, T, .slice none 0 0, .slice none 0 0⟩ (.mk 11 0 S [] []) (.mk 11 0 T [] []) ⟨rfl, rfl, rfl, RdL.nil_ _ _, RdI.nil_ _⟩ ⟨rfl, rfl, rfl, RdL.nil_ _ _, RdI.nil_ _⟩ ⟨by decide, by decide, by decide, hS, (fun _ h => by cases h)⟩ ⟨by decide, by decide, by decide, hT, (fun _ h => by cases h)⟩
              have e : cmpV 1 (.mk 11 0 S [] []) (.mk 11 0 T [] []) = C := by
                unfold cmpV
                rw [if_neg (fun h => h rfl), if_neg (by decide), if_neg (by decide), if_pos (by decide), HCE.out]
              rw [e] at h
              rw [HS.out.1, HT.out.1]
              exact h
            have x0 : wc.cell? ⟨gx, 0, none⟩ = some (.int .i64 15) := HBXC.out.cell 0
            have x1 : wc.cell? ⟨gx, 1, none⟩ = some (.int .i64 0) := HBXC.out.cell 1
            have x2 : wc.cell? ⟨gx, 2, none⟩ = some (.string ⟨#[]⟩) := HBXC.out.cell 2
            have x3 : wc.cell? ⟨gx, 3, none⟩ = some (.slice Ax m0 cx) := HBXC.out.cell 3
            have x4 : wc.cell? ⟨gx, 4, none⟩ = some (.slice none 0 0) := HBXC.out.cell 4
            have y0 : wc.cell? ⟨gy, 0, none⟩ = some (.int .i64 15) := HBYC.out.cell 0
            have y1 : wc.cell? ⟨gy, 1, none⟩ = some (.int .i64 0) := HBYC.out.cell 1
            have y2 : wc.cell? ⟨gy, 2, none⟩ = some (.string ⟨#[]⟩) := HBYC.out.cell 2
            have y3 : wc.cell? ⟨gy, 3, none⟩ = some (.slice Ay m1 cy) := HBYC.out.cell 3
            have y4 : wc.cell? ⟨gy, 4, none⟩ = some (.slice none 0 0) := HBYC.out.cell 4

            go_wp2_with fail
            refine (HCX.out wc (Nx.refl _)).mono ?_; rintro e w5 ⟨rfl, hn5⟩
            have HK5 := Lib.hid hn5
            clear x0 x1 x2 x3 x4 y0 y1 y2 y3 y4 hn5
            have x0 : w5.cell? ⟨gx, 0, none⟩ = some (.int .i64 15) := (HBXC.out.below HK5.out).cell 0
            have x1 : w5.cell? ⟨gx, 1, none⟩ = some (.int .i64 0) := (HBXC.out.below HK5.out).cell 1
            have x2 : w5.cell? ⟨gx, 2, none⟩ = some (.string ⟨#[]⟩) := (HBXC.out.below HK5.out).cell 2
            have x3 : w5.cell? ⟨gx, 3, none⟩ = some (.slice Ax m0 cx) := (HBXC.out.below HK5.out).cell 3
            have x4 : w5.cell? ⟨gx, 4, none⟩ = some (.slice none 0 0) := (HBXC.out.below HK5.out).cell 4
            have y0 : w5.cell? ⟨gy, 0, none⟩ = some (.int .i64 15) := (HBYC.out.below HK5.out).cell 0
            have y1 : w5.cell? ⟨gy, 1, none⟩ = some (.int .i64 0) := (HBYC.out.below HK5.out).cell 1
            have y2 : w5.cell? ⟨gy, 2, none⟩ = some (.string ⟨#[]⟩) := (HBYC.out.below HK5.out).cell 2
            have y3 : w5.cell? ⟨gy, 3, none⟩ = some (.slice Ay m1 cy) := (HBYC.out.below HK5.out).cell 3
            have y4 : w5.cell? ⟨gy, 4, none⟩ = some (.slice none 0 0) := (HBYC.out.below HK5.out).cell 4
            go_wp2_with fail
            refine (HCY.out w5 HK5.out).mono ?_; rintro e w6 ⟨rfl, hn6⟩
            have HK6 := Lib.hid hn6
            clear x0 x1 x2 x3 x4 y0 y1 y2 y3 y4 hn6
            go_wp2_with fail
            refine (HCS.out w6).mono ?_; rintro e w7 ⟨rfl, hn7⟩
            have HK7 := Lib.hid (HNC.out.trans (HK5.out.trans (HK6.out.trans hn7)))
            clear hn7
            go_wp2_with fail
            go_ret
            exact ⟨rfl, HK7.out⟩
end Go.Proofs.Ytiabmkppfbiklaa
