/- The contract of Show. -/
import Derived.Test.YtpaacfoiiihbeaaDoorKinK
import Derived.Test.YtpaacfoiiihbeaaDoorOwnB
import Derived.Test.YtpaacfoiiihbeaaDoorBytes
set_option linter.unusedVariables false
set_option linter.unusedSimpArgs false
namespace Go.Proofs.YtpaacfoiiihbeaaDoor
open Go.RowKit

/-- the text of a head -/
def partS (k : Nat) (a b : List UInt8) : List UInt8 := if k = 14 ∨ k = 15 then 60 :: (a ++ [62]) else if k = 13 then 60 :: (a ++ 44 :: (b ++ [62])) else []
def showS (k : Int) (n a b : List UInt8) : List UInt8 := if k = 0 then n else if k < 0 ∨ 17 ≤ k then [] else wordK k.toNat ++ partS k.toNat a b

theorem show_name (n a b : List UInt8) : showS 0 n a b = n := by simp [showS]
theorem show_none (k : Int) (n a b : List UInt8) (h0 : k ≠ 0) (h : k < 0 ∨ 17 ≤ k) : showS k n a b = [] := by unfold showS; rw [if_neg h0, if_pos h]
theorem show_word (k : Nat) (n a b : List UInt8) (h0 : k ≠ 0) (h : k < 17) : showS (k : Int) n a b = wordK k ++ partS k a b := by
  unfold showS
  rw [if_neg (by omega), if_neg (by omega)]
  rfl
/-- what has been written so far -/
def prefS (k : Nat) (a b : List UInt8) : Nat → List UInt8
  | 0 => []
  | 1 => 60 :: a
  | 2 => if k = 13 then 60 :: a ++ 44 :: b else 60 :: a ++ [62]
  | _ => 60 :: a ++ 44 :: b ++ [62]
def stopN (k : Nat) : Nat := if k = 14 ∨ k = 15 then 2 else if k = 13 then 3 else 0
theorem pref_stop (k : Nat) (a b : List UInt8) : prefS k a b (stopN k) = partS k a b := by
  unfold stopN partS
  split
  · rename_i h
    simp [prefS, show k ≠ 13 by omega]
  · split
    · simp [prefS]
    · rfl
theorem sign_stop (k : Nat) : signV k (stopN k) = none := by
  unfold stopN signV
  split
  · rename_i h
    rw [if_neg (by omega), if_neg (by omega), if_neg (by omega)]
  · split
    · rename_i h1 h2; subst h2; rfl
    · rw [if_neg (by omega), if_neg (by omega), if_neg (by omega)]
theorem sign_before (k i : Nat) (h : i < stopN k) : ∃ x : UInt8, signV k i = some x.toNat ∧ (x = 60 ∨ x = 44 ∨ x = 62) ∧ (x = 62 → ∀ a b, prefS k a b (i + 1) = prefS k a b i ++ [62]) ∧ (x ≠ 62 → i < 2 ∧ ∀ a b, prefS k a b (i + 1) = prefS k a b i ++ x :: (if i = 0 then a else b)) := by
  unfold stopN at h
  split at h
  · rename_i hk
    have h13 : k ≠ 13 := by omega
    rcases (show i = 0 ∨ i = 1 by omega) with rfl | rfl
    · exact ⟨60, by rcases hk with rfl | rfl <;> rfl, .inl rfl, fun h => absurd h (by decide), fun _ => ⟨by omega, fun a b => rfl⟩⟩
    · exact ⟨62, by rcases hk with rfl | rfl <;> rfl, .inr (.inr rfl), fun _ a b => by simp [prefS, h13], fun h => absurd rfl h⟩
  · split at h
    · rename_i h1 hk
      subst hk
      rcases (show i = 0 ∨ i = 1 ∨ i = 2 by omega) with rfl | rfl | rfl
      · exact ⟨60, rfl, .inl rfl, fun h => absurd h (by decide), fun _ => ⟨by omega, fun a b => rfl⟩⟩
      · exact ⟨44, rfl, .inr (.inl rfl), fun h => absurd h (by decide), fun _ => ⟨by omega, fun a b => by simp [prefS]⟩⟩
      · exact ⟨62, rfl, .inr (.inr rfl), fun _ a b => by simp [prefS], fun h => absurd rfl h⟩
    · omega

theorem pref_len (k : Nat) (a b : List UInt8) (i : Nat) : (prefS k a b i).length ≤ a.length + b.length + 3 := by
  unfold prefS
  split
  · simp
  · simp; omega
  · split <;> simp <;> omega
  · simp; omega
theorem word_len (k : Nat) : (wordK k).length ≤ 6 := by
  unfold wordK
  repeat' split
  all_goals decide
theorem src_one (P : Program) (w : World) (t e T : TypeId) (x : UInt8) (ht : P.underlying t = some (.slice e)) : Src P 1 t (.slice (some ⟨w.heap.size, 0, none⟩) 1 1) [x].length ([x].map bv) (w.alloc (.cells #[.int .u8 (x.toNat : Int)] T)) := by
  refine Src.ofSlice _ ht _ 1 1 _ rfl (fun j u hu => ?_) (fun u hu => ?_)
  · cases j with
    | zero =>
      rw [Addr.add_lit, Nat.zero_add, (Blk.new w #[.int .u8 (x.toNat : Int)] T).cell 0]
      simpa [bv] using hu
    | succ j => simp at hu
  · simp at hu; subst hu; rfl
theorem src_str (P : Program) (w : World) (u : TypeId) (s : ByteArray) (l : List UInt8) (hl : Tx s l) (hu : P.underlying u = some .string) : Src P 1 u (.string s) l.length (l.map bv) w := by
  have := Src.ofString (P := P) w hu s
  rw [hl.size] at this
  have e : byteCells s = l.map bv := by unfold byteCells; rw [show s.data.toList = l from hl]; rfl
  rw [e] at this
  exact this

set_option maxRecDepth 100000 in
set_option maxHeartbeats 6400000 in
theorem show_any (w : World) (k : Int) (n a b : ByteArray) (ln la lb : List UInt8) (hln : Tx n ln) (hla0 : Tx a la) (hlb0 : Tx b lb) (hk1 : -9223372036854775808 ≤ k) (hk2 : k ≤ 9223372036854775807) (ha : (a.size : Int) ≤ 8000) (hb : (b.size : Int) ≤ 8000) (ht : TabK w) :
    Calls Tryd.prog 18 #[.int .i64 k, .string n, .string a, .string b] w fun e w' => e = .returned (.string (bA (showS k ln la lb))) ∧ Nx w w' := by
  have HLN := Lib.hid hln
  have HLA := Lib.hid hla0
  have HLB := Lib.hid hlb0
  clear hln hla0 hlb0
  by_cases h0 : k = 0
  · subst h0
    rw [show_name, ← bA_tx HLN.out]
    go_enter Tryd.func18, Tryd.ntmps18
    go_wp2_with fail
    refine (fresh_any n w).mono ?_; rintro e w' ⟨rfl, hn⟩
    go_wp2_with fail
    go_ret
    exact ⟨rfl, hn⟩
  · have hb0 : (k == 0) = false := by rw [beq_eq_false_iff_ne]; exact h0
    by_cases hr : k < 0 ∨ 17 ≤ k
    · rw [show_none k _ _ _ h0 hr]
      clear h0
      by_cases hneg : k < 0
      · clear hr
        go_enter Tryd.func18, Tryd.ntmps18
        go_wp2_with fail
        go_ret
        exact ⟨rfl, Nx.refl _⟩
      · have h17 : 17 ≤ k := by omega
        have hneg' : 0 ≤ k := by omega
        clear hr
        go_enter Tryd.func18, Tryd.ntmps18
        go_wp2_with fail
        go_ret
        exact ⟨rfl, Nx.refl _⟩
    · obtain ⟨K, rfl⟩ : ∃ K : Nat, k = (K : Int) := ⟨k.toNat, by omega⟩
      have hK17 : K < 17 := by omega
      have hK0 : K ≠ 0 := by omega
      have hKI : (K : Int) < 17 := by omega
      have hg1 : decide ((17 : Int) ≤ (K : Int)) = false := decide_eq_false (by omega)
      have hg0 : decide ((K : Int) < 0) = false := decide_eq_false (by omega)
      rw [show_word K _ _ _ hK0 hK17]
      have HK17 := Lib.hid hK17
      have HT := Lib.hid ht
      clear h0 hr hK0 hK17 ht
      go_enter Tryd.func18, Tryd.ntmps18
      go_wp2_with fail
      refine (signs_any w).mono ?_; rintro e w1 ⟨rfl, hsg, hn1⟩
      obtain ⟨sb, hsb⟩ : ∃ sb, w.heap.size = sb := ⟨_, rfl⟩
      rw [hsb] at hsg ⊢
      have HSB := Lib.hid hsb
      have hsl : sb < w1.heap.size := by
        obtain ⟨es, c, h, -⟩ := hsg
        exact (Array.getElem?_eq_some_iff.1 h).1
      obtain ⟨g, hg⟩ : ∃ g, w1.heap.size = g := ⟨_, rfl⟩
      have hB2 := Blk.new w1 #[.string a, .string b] 40
      rw [hg] at hB2
      have hN2 := (Nx.refl w1).al (.cells #[.string a, .string b] 40)
      have HG := Lib.hid hg
      have HSL := Lib.hid hsl
      have HN2 : Hid (Nx w (w1.alloc (.cells #[.string a, .string b] 40))) := hn1.trans hN2
      have HSG2 : Hid (Sg (w1.alloc (.cells #[.string a, .string b] 40)) sb) := by
        obtain ⟨es, c, h, h1, h2⟩ := hsg
        exact ⟨es, c, by rw [hN2.block sb hsl]; exact h, h1, h2⟩
      have HB2 := Lib.hid hB2
      have hc : (w1.alloc (.cells #[.string a, .string b] 40)).cell? ⟨0, K, none⟩ = some (.string (kwB K)) := by
        obtain ⟨t, fr, h⟩ := HT.out.nx HN2.out
        unfold World.cell?
        simp only [h]
        exact kwV_at K HK17.out
      have hfz : ∀ x : Nat, x < 17 → True := fun _ _ => trivial
      clear hsg hn1 hsb hsl hB2 hN2 hfz
      have HWL : Hid ((wordK K).length ≤ maxLen) := by
        unfold Hid wordK maxLen
        repeat' split
        all_goals decide
      go_wp2_with (refine wpList_bytesB _ (o := ⟨some 32, _, _, _, _, _⟩) rfl _ rfl Tryd.underlying9 Tryd.underlying37 Tryd.underlying5 (kwB K) (wordK K) (Tx.of _) rfl HWL.out ?_; intro v3 w3 hown3 hn3; have HOW3 := Lib.hid hown3; have HN3 := Lib.hid hn3; clear hown3 hn3 hc)
      obtain ⟨w2, hw2⟩ : ∃ w2, w1.alloc (.cells #[.string a, .string b] 40) = w2 := ⟨_, rfl⟩
      rw [hw2] at HN2 HSG2 HB2 HOW3 HN3
      clear hw2
      have hst : stopN K ≤ 3 := by unfold stopN; split <;> (try split) <;> omega
      have HST := Lib.hid hst
      clear hst
      go_loopw [11, 12] (fun ov iv wr => ∃ i : Nat, iv = .int .i64 (i : Int) ∧ i ≤ stopN K ∧ OwnB wr w2.heap.size ov (wordK K ++ prefS K la lb i) ∧ Nx w2 wr) (fun _ iv _ => 5 - (intOf iv).toNat)
      case atStart => exact ⟨0, rfl, Nat.zero_le _, by rw [show prefS K la lb 0 = [] from rfl, List.append_nil]; exact HOW3.out, HN3.out⟩
      case round =>
        obtain ⟨i, rfl, hi, hown, hnx⟩ := hrel
        have HOW := Lib.hid hown
        have HNX := Lib.hid hnx
        have HI := Lib.hid hi
        have hi3 : i < 4 := by have := HST.out; omega
        have HSGr : Hid (Sg wr sb) := by
          obtain ⟨es, c, h, h1, h2⟩ := HSG2.out
          exact ⟨es, c, by rw [hnx.block sb (Array.getElem?_eq_some_iff.1 h).1]; exact h, h1, h2⟩
        have hiI : (i : Int) ≤ 3 := by omega
        clear hown hnx
        by_cases hlt : i < stopN K
        · obtain ⟨x, hx, hx3, hxe, hxn⟩ := sign_before K i hlt
          have hlk := look_at HSGr.out K i HK17.out hi3 (i : Int) rfl _ hx (x.toNat : Int) rfl true rfl
          have HOWa := Lib.hid (HOW.out.nx (nx0 wr (.cells #[.int .u8 (x.toNat : Int)] 5)))
          have HSRC := Lib.hid (src_one Tryd.prog wr 37 5 5 x Tryd.underlying37)
          have hpl := pref_len K la lb i
          have hwl := word_len K
          have hlas := HLA.out.size
          have hlbs := HLB.out.size
          have h63 : ((wordK K ++ prefS K la lb i).length : Int) + (([x] : List UInt8).length : Int) ≤ 1000000 := by rw [List.length_append]; simp; omega
          have HB5 : Hid (w2.heap.size ≤ (wr.alloc (.cells #[.int .u8 (x.toNat : Int)] 5)).heap.size) := Nat.le_trans HNX.out.size (nx0 wr _).size
          have HXE := Lib.hid hxe
          have HXN := Lib.hid hxn
          have HHI : Hid (i < stopN K) := hlt
          clear hx hx3 hxe hxn hpl hwl hlas hlbs hlt hi
          by_cases h62 : x = 62
          · have hb62 : ((x.toNat : Int) != 62) = false := by rw [h62]; rfl
            have HX := Lib.hid h62
            clear h62
            go_wp2_with (refine wpList_appB _ (o := ⟨some 50, _, _, _, _, _⟩) rfl _ _ _ _ 5 rfl Tryd.underlying37 info_u8 w2.heap.size u11 _ [x] rfl HOWa.out _ rfl HSRC.out h63 HB5.out ?_; intro v4 w4 hown4 hgb4; have HOW4 := Lib.hid hown4; have HGB4 := Lib.hid hgb4; clear hown4 hgb4)
            have hnx4 : Nx w2 w4 := HGB4.out.to (HNX.out.trans (nx0 wr _)) (fun k e => (HOW.out.own k e).1)
            have hh : i < stopN K := HHI.out
            refine ⟨⟨i + 1, by go_num, hh, ?_, hnx4⟩, by simp [intOf]; omega⟩
            have h1 := HOW4.out
            rw [HXE.out HX.out la lb, ← List.append_assoc]
            rw [HX.out] at h1
            exact h1
          · have hb62 : ((x.toNat : Int) != 62) = true := by
              rw [bne_iff_ne]
              intro h
              exact h62 (UInt8.toNat_inj.1 (by have : (62 : UInt8).toNat = 62 := rfl; omega))
            obtain ⟨hi2, hpre⟩ := HXN.out h62
            have HPRE := Lib.hid hpre
            obtain ⟨y, hy⟩ : ∃ y, Hid ((if i = 0 then a else b) = y) := ⟨_, rfl⟩
            obtain ⟨ly, hly⟩ : ∃ ly, Hid ((if i = 0 then la else lb) = ly) := ⟨_, rfl⟩
            have HTY : Hid (Tx y ly) := by
              unfold Hid
              rw [← hy.out, ← hly.out]
              split
              · exact HLA.out
              · exact HLB.out
            have hys : ly.length ≤ 8000 := by
              rw [← HTY.out.size, ← hy.out]
              split <;> omega
            have hcy : w2.cell? ⟨g, i, none⟩ = some (.string y) := by
              rcases (show i = 0 ∨ i = 1 by omega) with rfl | rfl
              · rw [← hy.out, if_pos rfl]; exact HB2.out.cell 0
              · rw [← hy.out, if_neg (by decide)]; exact HB2.out.cell 1
            have HCY := Lib.hid hcy
            have hgw : g < w2.heap.size := HB2.out.lt
            have HGW := Lib.hid hgw
            have hi2I : (i : Int) < 2 := by omega
            have hlas := HLA.out.size
            have hlbs := HLB.out.size
            have hpl := pref_len K la lb i
            have hwl := word_len K
            have HL2 : Hid (((wordK K ++ prefS K la lb i ++ [x]).length : Int) + (ly.length : Int) ≤ 1000000) := by unfold Hid; rw [List.length_append, List.length_append]; simp; omega
            clear h62 hi2 hpre hcy hgw hys hlas hlbs hpl hwl
            go_wp2_with (first
              | (refine wpList_appB _ (o := ⟨some 50, _, _, _, _, _⟩) rfl _ _ _ _ 5 rfl Tryd.underlying37 info_u8 w2.heap.size u11 _ [x] rfl HOWa.out _ rfl HSRC.out h63 HB5.out ?_; intro v4 w4 hown4 hgb4; have HOW4 := Lib.hid hown4; have HNX4 : Hid (Nx w2 w4) := hgb4.to (HNX.out.trans (nx0 wr _)) (fun k e => (HOW.out.own k e).1); have hcy : w4.cell? ⟨g, i, none⟩ = some (.string y) := (HNX4.out.cell (p := ⟨g, i, none⟩) HGW.out).trans HCY.out; have HB6 := Lib.hid HNX4.out.size; have HSRC2 := Lib.hid (src_str Tryd.prog w4 9 y ly HTY.out Tryd.underlying9); clear hown4 hgb4)
              | (refine wpList_appB _ (o := ⟨some 57, _, _, _, _, _⟩) rfl _ _ _ _ 5 rfl Tryd.underlying37 info_u8 w2.heap.size v4 _ ly rfl HOW4.out _ rfl HSRC2.out HL2.out HB6.out ?_; intro v5 w5 hown5 hgb5; have HOW5 := Lib.hid hown5; have HGB5 := Lib.hid hgb5; clear hown5 hgb5 hcy))
            have hnx5 : Nx w2 w5 := HGB5.out.to HNX4.out (fun k e => (HOW4.out.own k e).1)
            have hh : i < stopN K := HHI.out
            refine ⟨⟨i + 1, by go_num, hh, ?_, hnx5⟩, by simp [intOf]; omega⟩
            have h1 := HOW5.out
            rw [HPRE.out la lb, hly.out]
            have e2 : wordK K ++ prefS K la lb i ++ [x] ++ ly = wordK K ++ (prefS K la lb i ++ x :: ly) := by simp
            rw [e2] at h1
            exact h1
        · obtain rfl : i = stopN K := by omega
          have hlk := look_at HSGr.out K (stopN K) HK17.out hi3 (stopN K : Int) rfl _ (sign_stop K) 0 rfl false rfl
          obtain ⟨g', c', hv, hrd⟩ := HOW.out.rd
          rw [pref_stop] at hv hrd
          have HRD := Lib.hid hrd
          subst hv
          clear hrd hlt hi
          go_wp2_with (refine wpList_str _ (o := ⟨some 46, _, _, _, _, _⟩) rfl _ rfl Tryd.underlying37 Tryd.underlying5 Tryd.underlying9 _ _ _ rfl HRD.out ?_; intro t HT ht1 ht2)
          go_ret
          rw [HT.out]
          exact ⟨rfl, HN2.out.trans HNX.out⟩
end Go.Proofs.YtpaacfoiiihbeaaDoor
