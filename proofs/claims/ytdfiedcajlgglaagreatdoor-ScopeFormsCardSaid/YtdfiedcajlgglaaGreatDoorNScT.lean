/- The walk of ScopeForms. -/
import Derived.Test.YtdfiedcajlgglaaGreatDoorNScS
import Derived.Test.YtdfiedcajlgglaaGreatDoorG23
import Derived.Test.YtdfiedcajlgglaaGreatDoorNBas
set_option linter.unusedVariables false
set_option linter.unusedSimpArgs false
namespace Go.Proofs.YtdfiedcajlgglaaGreatDoor
open Go.RowKit

theorem row_at {w : World} {B g : Nat} {l : List (List UInt8)} {T : TypeId} (h : Blk w B g ((l.map bt).toArray) T) (i : Nat) (hi : i < l.length) : w.cell? ⟨g, i, none⟩ = some (.string ⟨(l.getD i []).toArray⟩) := by
  have := h.cell i
  rw [this]
  simp [bt, List.getD, hi]
theorem arr12 {cs : Array Value} (h : cs.size = 12) : ∃ k0 k1 k2 k3 k4 k5 k6 k7 k8 k9 k10 k11, cs = #[k0, k1, k2, k3, k4, k5, k6, k7, k8, k9, k10, k11] := by
  obtain ⟨l⟩ := cs
  match l, h with
  | [k0, k1, k2, k3, k4, k5, k6, k7, k8, k9, k10, k11], _ => exact ⟨k0, k1, k2, k3, k4, k5, k6, k7, k8, k9, k10, k11, rfl⟩
/-- new blocks of definitions stay such -/
def Rw (W x y : World) : Prop := ∀ g (cs : Array Value), W.heap.size ≤ g → x.heap[g]? = some (.cells cs 51 (0, 0)) → ∃ cs' : Array Value, cs'.size = cs.size ∧ y.heap[g]? = some (.cells cs' 51 (0, 0))
theorem Rw.refl (W x : World) : Rw W x x := fun g cs _ h => ⟨cs, rfl, h⟩
theorem Rw.nx {W x y : World} (h : Nx x y) : Rw W x y := fun g cs _ e => ⟨cs, rfl, by rw [h.block g (Array.getElem?_eq_some_iff.1 e).1]; exact e⟩
theorem Rw.puts {W x : World} {B gd : Nat} {cs : Array Value} (h : Blk x B gd cs 51) (vs : List Value) (hl : vs.length = cs.size) : Rw W x (wputs x gd 0 vs) := by
  intro g c _ e
  by_cases hg : g = gd
  · subst hg
    have h2 := h.2
    rw [e] at h2
    cases h2
    exact ⟨vs.toArray, by simp [hl], (h.putAll vs hl).2⟩
  · exact ⟨c, rfl, ((show Blk x 0 g c 51 from ⟨Nat.zero_le _, e⟩).apart (Ne.symm hg) vs 0).2⟩
set_option maxRecDepth 100000 in
set_option maxHeartbeats 6400000 in
theorem ScopeForms_walk (w : World) (hm : MaxC w) :
    Calls Tryz.prog 4 #[] w fun e w' => e = .returned (.bool true) ∧ Below w.heap.size w w' := by
  have HM := Lib.hid hm
  have HBG := Lib.hid (scbegun_any w hm)
  clear hm
  go_enter Tryz.func4, Tryz.ntmps4
  go_wp2_with fail
  refine HBG.out.mono ?_; rintro e w0 ⟨rfl, hn0⟩
  have HN0 := Lib.hid hn0
  clear hn0 HBG
  obtain ⟨gA, hgA⟩ : ∃ g, w0.heap.size = g := ⟨_, rfl⟩
  obtain ⟨w1, hw1⟩ : ∃ w1, w0.alloc (.cells #[.string ⟨#[97]⟩, .string ⟨#[105, 110, 99, 108, 117, 100, 101, 32, 39, 98, 39, 32, 99, 111, 110, 115, 116, 32, 105, 56, 32, 88, 32, 61, 32, 49, 32, 101, 110, 117, 109, 32, 98, 32, 123, 88, 125, 32, 101, 110, 117, 109, 32, 70, 32, 123, 71, 125]⟩, .string ⟨#[98]⟩, .string ⟨#[105, 110, 99, 108, 117, 100, 101, 32, 39, 99, 39, 32, 99, 111, 110, 115, 116, 32, 105, 56, 32, 88, 32, 61, 32, 50, 32, 101, 110, 117, 109, 32, 69, 32, 123, 89, 125]⟩, .string ⟨#[99]⟩, .string ⟨#[101, 110, 117, 109, 32, 69, 32, 123, 89, 125, 32, 99, 111, 110, 115, 116, 32, 105, 56, 32, 90, 32, 61, 32, 49]⟩] 57) = w1 := ⟨_, rfl⟩
  have hb1 : Blk w1 gA gA #[.string ⟨#[97]⟩, .string ⟨#[105, 110, 99, 108, 117, 100, 101, 32, 39, 98, 39, 32, 99, 111, 110, 115, 116, 32, 105, 56, 32, 88, 32, 61, 32, 49, 32, 101, 110, 117, 109, 32, 98, 32, 123, 88, 125, 32, 101, 110, 117, 109, 32, 70, 32, 123, 71, 125]⟩, .string ⟨#[98]⟩, .string ⟨#[105, 110, 99, 108, 117, 100, 101, 32, 39, 99, 39, 32, 99, 111, 110, 115, 116, 32, 105, 56, 32, 88, 32, 61, 32, 50, 32, 101, 110, 117, 109, 32, 69, 32, 123, 89, 125]⟩, .string ⟨#[99]⟩, .string ⟨#[101, 110, 117, 109, 32, 69, 32, 123, 89, 125, 32, 99, 111, 110, 115, 116, 32, 105, 56, 32, 90, 32, 61, 32, 49]⟩] 57 := by rw [← hw1, ← hgA]; exact Blk.new w0 _ _
  have HN1 : Hid (Nx w w1) := by unfold Hid; rw [← hw1]; exact HN0.out.trans (nx0 _ _)
  have HB1 := Lib.hid hb1
  have hrd : RdW w1 (some ⟨gA, 0, none⟩) sfX := fun _ => ⟨gA, 0, rfl, HB1.out.lt, fun i hi => by
    have hi : i < 3 := hi
    rcases (show i = 0 ∨ i = 1 ∨ i = 2 by omega) with rfl | rfl | rfl
    · exact ⟨HB1.out.cell 0, HB1.out.cell 1⟩
    · exact ⟨HB1.out.cell 2, HB1.out.cell 3⟩
    · exact ⟨HB1.out.cell 4, HB1.out.cell 5⟩⟩
  obtain ⟨o1, o2, o3, o4, o5, o6⟩ := sf_ok
  have HLO := Lib.hid (load_w w1 [97] _ 3 3 sfX rfl hrd o1 (by decide) sfN sfF 3 rfl rfl o2 o3 o4 o5 o6)
  clear hrd o1 o2 o3 o4 o5 o6 hb1
  go_wp2_with fail
  clear hw1 hgA
  refine HLO.out.mono ?_
  rintro e w2 ⟨nA, nc, fA, fc, rfl, hld, hn2⟩
  obtain ⟨g1, hg1⟩ : ∃ g, w2.heap.size = g := ⟨_, rfl⟩
  obtain ⟨w3, hw3⟩ : ∃ w3, w2.alloc (.cells #[.slice nA 3 nc, .slice fA 3 fc] 27) = w3 := ⟨_, rfl⟩
  have hb3 : Blk w3 g1 g1 #[.slice nA 3 nc, .slice fA 3 fc] 27 := by rw [← hw3, ← hg1]; exact Blk.new w2 _ _
  have hn3 : Nx w2 w3 := by rw [← hw3]; exact nx0 _ _
  have HLD3 := Lib.hid (hld.nx hn3)
  have HN3 := Lib.hid (HN1.out.trans (hn2.trans hn3))
  have a0 : w3.cell? ⟨g1, 0, none⟩ = some (.slice nA 3 nc) := hb3.cell 0
  have a1 : w3.cell? ⟨g1, 1, none⟩ = some (.slice fA 3 fc) := hb3.cell 1
  clear hld hn2 hn3 hb3 HLO
  go_wp2_with fail
  clear hw3 hg1
  refine (from_any w3 nA fA 3 nc 3 fc).mono ?_; rintro e w4 ⟨rfl, hn4⟩
  obtain ⟨g2, hg2⟩ : ∃ g, w4.heap.size = g := ⟨_, rfl⟩
  obtain ⟨g3, hg3⟩ : ∃ g, g2 + 1 = g := ⟨_, rfl⟩
  obtain ⟨g4, hg4⟩ : ∃ g, g3 + 1 = g := ⟨_, rfl⟩
  obtain ⟨g5, hg5⟩ : ∃ g, g4 + 1 = g := ⟨_, rfl⟩
  obtain ⟨w5, hw5⟩ : ∃ w5, (((w4.alloc (.cells #[.slice nA 3 nc, .slice fA 3 fc] 37)).alloc (.cells #[.string ⟨#[88]⟩, .string ⟨#[98, 46, 88]⟩, .string ⟨#[98, 46, 69, 46, 89]⟩, .string ⟨#[98, 46, 69, 46, 90]⟩, .string ⟨#[70, 46, 71]⟩, .string ⟨#[97, 46, 70, 46, 71]⟩, .string ⟨#[99, 46, 90]⟩, .string ⟨#[99, 46, 69, 46, 89]⟩, .string ⟨#[69, 46, 89]⟩, .string ⟨#[97, 46, 88]⟩, .string ⟨#[97, 46, 98, 46, 88]⟩, .string ⟨#[98, 46, 98, 46, 88]⟩, .string ⟨#[70]⟩, .string ⟨#[98, 46, 69]⟩] 9)).alloc (.cells #[.string ⟨#[97, 46, 88]⟩, .string ⟨#[98, 46, 88]⟩, .string ⟨#[98, 46, 69]⟩, .string ⟨#[]⟩, .string ⟨#[97, 46, 70]⟩, .string ⟨#[97, 46, 70]⟩, .string ⟨#[]⟩, .string ⟨#[]⟩, .string ⟨#[]⟩, .string ⟨#[97, 46, 88]⟩, .string ⟨#[97, 46, 98]⟩, .string ⟨#[]⟩, .string ⟨#[]⟩, .string ⟨#[]⟩] 9)).alloc (.cells #[.string ⟨#[]⟩, .string ⟨#[]⟩, .string ⟨#[89]⟩, .string ⟨#[]⟩, .string ⟨#[71]⟩, .string ⟨#[71]⟩, .string ⟨#[]⟩, .string ⟨#[]⟩, .string ⟨#[]⟩, .string ⟨#[]⟩, .string ⟨#[88]⟩, .string ⟨#[]⟩, .string ⟨#[]⟩, .string ⟨#[]⟩] 9) = w5 := ⟨_, rfl⟩
  have HN45 : Hid (Nx w4 w5) := by unfold Hid; rw [← hw5]; exact Nx.al (Nx.al (Nx.al (nx0 w4 _) _) _) _
  have HB5 : Hid (Blk w5 g2 g2 #[.slice nA 3 nc, .slice fA 3 fc] 37) := by
    unfold Hid; rw [← hw5, ← hg2]; exact (((Blk.new w4 _ _).alloc _).alloc _).alloc _
  have HBR : Hid (Blk w5 g3 g3 ((sfR.map bt).toArray) 9) := by
    have e : g3 = (w4.alloc (.cells #[.slice nA 3 nc, .slice fA 3 fc] 37)).heap.size := by simp; omega
    unfold Hid; rw [← hw5, e]; exact ((Blk.new (w4.alloc (.cells #[.slice nA 3 nc, .slice fA 3 fc] 37)) #[.string ⟨#[88]⟩, .string ⟨#[98, 46, 88]⟩, .string ⟨#[98, 46, 69, 46, 89]⟩, .string ⟨#[98, 46, 69, 46, 90]⟩, .string ⟨#[70, 46, 71]⟩, .string ⟨#[97, 46, 70, 46, 71]⟩, .string ⟨#[99, 46, 90]⟩, .string ⟨#[99, 46, 69, 46, 89]⟩, .string ⟨#[69, 46, 89]⟩, .string ⟨#[97, 46, 88]⟩, .string ⟨#[97, 46, 98, 46, 88]⟩, .string ⟨#[98, 46, 98, 46, 88]⟩, .string ⟨#[70]⟩, .string ⟨#[98, 46, 69]⟩] 9).alloc _).alloc _
  have HBW : Hid (Blk w5 g4 g4 ((sfW.map bt).toArray) 9) := by
    have e : g4 = ((w4.alloc (.cells #[.slice nA 3 nc, .slice fA 3 fc] 37)).alloc (.cells #[.string ⟨#[88]⟩, .string ⟨#[98, 46, 88]⟩, .string ⟨#[98, 46, 69, 46, 89]⟩, .string ⟨#[98, 46, 69, 46, 90]⟩, .string ⟨#[70, 46, 71]⟩, .string ⟨#[97, 46, 70, 46, 71]⟩, .string ⟨#[99, 46, 90]⟩, .string ⟨#[99, 46, 69, 46, 89]⟩, .string ⟨#[69, 46, 89]⟩, .string ⟨#[97, 46, 88]⟩, .string ⟨#[97, 46, 98, 46, 88]⟩, .string ⟨#[98, 46, 98, 46, 88]⟩, .string ⟨#[70]⟩, .string ⟨#[98, 46, 69]⟩] 9)).heap.size := by simp; omega
    unfold Hid; rw [← hw5, e]; exact (Blk.new _ #[.string ⟨#[97, 46, 88]⟩, .string ⟨#[98, 46, 88]⟩, .string ⟨#[98, 46, 69]⟩, .string ⟨#[]⟩, .string ⟨#[97, 46, 70]⟩, .string ⟨#[97, 46, 70]⟩, .string ⟨#[]⟩, .string ⟨#[]⟩, .string ⟨#[]⟩, .string ⟨#[97, 46, 88]⟩, .string ⟨#[97, 46, 98]⟩, .string ⟨#[]⟩, .string ⟨#[]⟩, .string ⟨#[]⟩] 9).alloc _
  have HBM : Hid (Blk w5 g5 g5 ((sfM.map bt).toArray) 9) := by
    have e : g5 = (((w4.alloc (.cells #[.slice nA 3 nc, .slice fA 3 fc] 37)).alloc (.cells #[.string ⟨#[88]⟩, .string ⟨#[98, 46, 88]⟩, .string ⟨#[98, 46, 69, 46, 89]⟩, .string ⟨#[98, 46, 69, 46, 90]⟩, .string ⟨#[70, 46, 71]⟩, .string ⟨#[97, 46, 70, 46, 71]⟩, .string ⟨#[99, 46, 90]⟩, .string ⟨#[99, 46, 69, 46, 89]⟩, .string ⟨#[69, 46, 89]⟩, .string ⟨#[97, 46, 88]⟩, .string ⟨#[97, 46, 98, 46, 88]⟩, .string ⟨#[98, 46, 98, 46, 88]⟩, .string ⟨#[70]⟩, .string ⟨#[98, 46, 69]⟩] 9)).alloc (.cells #[.string ⟨#[97, 46, 88]⟩, .string ⟨#[98, 46, 88]⟩, .string ⟨#[98, 46, 69]⟩, .string ⟨#[]⟩, .string ⟨#[97, 46, 70]⟩, .string ⟨#[97, 46, 70]⟩, .string ⟨#[]⟩, .string ⟨#[]⟩, .string ⟨#[]⟩, .string ⟨#[97, 46, 88]⟩, .string ⟨#[97, 46, 98]⟩, .string ⟨#[]⟩, .string ⟨#[]⟩, .string ⟨#[]⟩] 9)).heap.size := by simp; omega
    unfold Hid; rw [← hw5, e]; exact Blk.new _ #[.string ⟨#[]⟩, .string ⟨#[]⟩, .string ⟨#[89]⟩, .string ⟨#[]⟩, .string ⟨#[71]⟩, .string ⟨#[71]⟩, .string ⟨#[]⟩, .string ⟨#[]⟩, .string ⟨#[]⟩, .string ⟨#[]⟩, .string ⟨#[88]⟩, .string ⟨#[]⟩, .string ⟨#[]⟩, .string ⟨#[]⟩] 9
  have HLD5 := Lib.hid (HLD3.out.nx (hn4.trans HN45.out))
  have HN5 := Lib.hid (HN3.out.trans (hn4.trans HN45.out))
  clear hn4 a0 a1
  go_upto_region 10 with (fail)
  try rw [hw5]
  clear hw5 hg2 hg3 hg4 hg5
  go_wp2_with fail
  go_loopw [9] (fun v wr => ∃ i : Nat, v = .int .i64 (i : Int) ∧ i ≤ 14 ∧ Nx w5 wr) (fun v _ => (14 - intOf v).toNat)
  case atStart => exact ⟨0, rfl, by decide, Nx.refl _⟩
  case round =>
    obtain ⟨i, rfl, hi, hn⟩ := hrel
    have HNX := Lib.hid hn
    clear hn
    by_cases hlt : i < 14
    · have q1 : decide ((i : Int) < (14 : Int)) = true := decide_eq_true (by omega)
      have q2 : (i : Int) < (14 : Int) := by omega
      have q3 : (0 : Int) ≤ (i : Int) := by omega
      have HLT := Lib.hid hlt
      obtain ⟨hall, hrl⟩ := sf_all i (List.mem_range.2 hlt)
      obtain ⟨RFI, hRI⟩ : ∃ x, sfR.getD i [] = x := ⟨_, rfl⟩
      obtain ⟨WI, hWI⟩ : ∃ x, sfW.getD i [] = x := ⟨_, rfl⟩
      obtain ⟨MI, hMI⟩ : ∃ x, sfM.getD i [] = x := ⟨_, rfl⟩
      rw [hRI] at hall hrl
      rw [hWI, hMI] at hall
      have HLN := Lib.hid (HLD5.out.nx HNX.out)
      have hb5 := HB5.out.below HNX.out
      have HRC : Hid (w5.cell? ⟨g3, i, none⟩ = some (.string ⟨RFI.toArray⟩)) := by have := row_at HBR.out i hlt; rw [hRI] at this; exact this
      have HWC : Hid (w5.cell? ⟨g4, i, none⟩ = some (.string ⟨WI.toArray⟩)) := by have := row_at HBW.out i hlt; rw [hWI] at this; exact this
      have HMC : Hid (w5.cell? ⟨g5, i, none⟩ = some (.string ⟨MI.toArray⟩)) := by have := row_at HBM.out i hlt; rw [hMI] at this; exact this
      have HALL := Lib.hid hall
      have HRLE := Lib.hid hrl
      clear hlt hall hrl hRI hWI hMI
      go_upto_region 13 with (fail)
      have L0 : ∀ x : Gr wr, x.1.cell? ⟨g2, 0, none⟩ = some (.slice nA 3 nc) := fun x => (hb5.below x.2).cell 0
      have L1 : ∀ x : Gr wr, x.1.cell? ⟨g2, 1, none⟩ = some (.slice fA 3 fc) := fun x => (hb5.below x.2).cell 1
      have L2 : ∀ x : Gr wr, x.1.cell? ⟨g3, i, none⟩ = some (.string ⟨RFI.toArray⟩) := fun x => ((HNX.out.trans x.2).cell (p := ⟨g3, i, none⟩) HBR.out.lt).trans HRC.out
      obtain ⟨EI, hEI⟩ : ∃ x : Nat, (if WI = [] then 7 else 0) = x := ⟨_, rfl⟩
      have HALL : Hid (whoC sfN sfF (constP sfN sfF [97] RFI) = (WI, MI, EI)) := by unfold Hid; rw [HALL.out, hEI]
      have HEI := Lib.hid hEI
      clear hEI L0 L1 L2
      refine RI.wp_region_M (RI.Vof [fun v _ => v = .agg #[.slice nA 3 nc, .slice fA 3 fc], fun v _ => v = .slice (some ⟨g3, 0, none⟩) 14 14, fun v _ => v = .int .i64 (i : Int), fun v _ => v = .pointer (some ⟨g3, i, none⟩), fun v _ => v = .string ⟨RFI.toArray⟩, fun v _ => ∃ (u : Value) (H nm : List UInt8), v = .tuple #[.string ⟨WI.toArray⟩, u, .string ⟨MI.toArray⟩, .string ⟨H.toArray⟩, .int .i64 (EI : Int)] ∧ DfV u nm, fun v _ => ∃ (u : Value) (H nm : List UInt8), v = .tuple #[.string ⟨WI.toArray⟩, u, .string ⟨MI.toArray⟩, .string ⟨H.toArray⟩, .int .i64 (EI : Int)] ∧ DfV u nm, fun v _ => v = .string ⟨WI.toArray⟩, fun v _ => ∃ nm, DfV v nm, fun v _ => v = .string ⟨MI.toArray⟩, fun v _ => ∃ H : List UInt8, v = .string ⟨H.toArray⟩, fun v _ => v = .int .i64 (EI : Int), fun v x => ∃ g, v = .pointer (some ⟨g, 0, none⟩) ∧ wr.heap.size ≤ g ∧ ∃ cs : Array Value, cs.size = 12 ∧ x.heap[g]? = some (.cells cs 51 (0, 0)), fun v _ => v = .string ⟨WI.toArray⟩, fun _ _ => True, fun v _ => v = .string ⟨MI.toArray⟩, fun v _ => ∃ H : List UInt8, v = .string ⟨H.toArray⟩, fun v _ => v = .int .i64 (EI : Int)]) (fun _ x => Nx wr x) (fun _ x y => Rw wr x y) rfl (by kernel_rfl) (by kernel_rfl) (fun ls j v x y _ h1 h2 => RI.Vof.keeps (R := Rw wr) ?_ j v x y h1 h2) (Nx.drawn _) ?_ ?_
      · intro p hp v x y h1 h2
        simp only [List.mem_cons, List.not_mem_nil, or_false] at hp
        rcases hp with rfl | rfl | rfl | rfl | rfl | rfl | rfl | rfl | rfl | rfl | rfl | rfl | rfl | rfl | rfl | rfl | rfl | rfl <;> first | exact h1 | (obtain ⟨g, e1, e2, cs, e3, e4⟩ := h1; obtain ⟨cs', e5, e6⟩ := h2 g cs e2 e4; exact ⟨g, e1, e2, cs', e5.trans e3, e6⟩)
      · refine ⟨?_, ?_, ?_, ?_, ?_, ?_, ?_, ?_, ?_, ?_, ?_, ?_, ?_, ?_, ?_, ?_, ?_, ?_, trivial⟩
        · intro a x ls w' hS hsz hni hcl hun hin hout hd K hK
          have o : a.eval (.tmp 5) = .pointer (some ⟨g2, 0, none⟩) := hout 5 (by kernel_rfl)
          have o2 : a.tmps.getD 5 undef = .pointer (some ⟨g2, 0, none⟩) := o
          have hx := hb5.below (show Nx wr w' from hS)
          have c0 : w'.cell? ⟨g2, 0, none⟩ = some (.slice nA 3 nc) := hx.cell 0
          have c1 : w'.cell? ⟨g2, 1, none⟩ = some (.slice fA 3 fc) := hx.cell 1
          have HSS := Lib.hid hS
          clear hin hout hun hd hcl hS
          go_simp
          exact hK w' _ rfl HSS.out (Rw.refl _ _)
        · intro a x ls w' hS hsz hni hcl hun hin hout hd K hK
          have o : a.eval (.tmp 6) = .slice (some ⟨g3, 0, none⟩) 14 14 := hout 6 (by kernel_rfl)
          clear hin hout hun
          exact hK w' _ o hS (Rw.refl _ _)
        · intro a x ls w' hS hsz hni hcl hun hin hout hd K hK
          have o : a.eval (.tmp 9) = .int .i64 (i : Int) := hout 9 (by kernel_rfl)
          clear hin hout hun
          exact hK w' _ o hS (Rw.refl _ _)
        · intro a x ls w' hS hsz hni hcl hun hin hout hd K hK
          have i58 : a.tmps.getD 58 undef = .slice (some ⟨g3, 0, none⟩) 14 14 := (hin 58 1 (by kernel_rfl) (show 58 < 149 by decide)).trans (hd ⟨1, .data⟩ (by simp) rfl)
          have e58 : a.eval (.tmp 58) = .slice (some ⟨g3, 0, none⟩) 14 14 := i58
          have i59 : a.tmps.getD 59 undef = .int .i64 (i : Int) := (hin 59 2 (by kernel_rfl) (show 59 < 149 by decide)).trans (hd ⟨2, .data⟩ (by simp) rfl)
          have e59 : a.eval (.tmp 59) = .int .i64 (i : Int) := i59
          have HSS := Lib.hid hS
          clear hin hout hun hd hcl hS
          go_simp
          exact hK w' _ rfl HSS.out (Rw.refl _ _)
        · intro a x ls w' hS hsz hni hcl hun hin hout hd K hK
          have i60 : a.tmps.getD 60 undef = .pointer (some ⟨g3, i, none⟩) := (hin 60 3 (by kernel_rfl) (show 60 < 149 by decide)).trans (hd ⟨3, .data⟩ (by simp) rfl)
          have e60 : a.eval (.tmp 60) = .pointer (some ⟨g3, i, none⟩) := i60
          have c0 : w'.cell? ⟨g3, i, none⟩ = some (.string ⟨RFI.toArray⟩) := ((HNX.out.trans (show Nx wr w' from hS)).cell (p := ⟨g3, i, none⟩) HBR.out.lt).trans HRC.out
          have HSS := Lib.hid hS
          clear hin hout hun hd hcl hS
          go_simp
          exact hK w' _ rfl HSS.out (Rw.refl _ _)
        · intro a x ls w' hS hsz hni hcl hun hin hout hd K hK
          have i57 : a.tmps.getD 57 undef = .agg #[.slice nA 3 nc, .slice fA 3 fc] := (hin 57 0 (by kernel_rfl) (show 57 < 149 by decide)).trans (hd ⟨0, .data⟩ (by simp) rfl)
          have e57 : a.eval (.tmp 57) = .agg #[.slice nA 3 nc, .slice fA 3 fc] := i57
          have i61 : a.tmps.getD 61 undef = .string ⟨RFI.toArray⟩ := (hin 61 4 (by kernel_rfl) (show 61 < 149 by decide)).trans (hd ⟨4, .data⟩ (by simp) rfl)
          have e61 : a.eval (.tmp 61) = .string ⟨RFI.toArray⟩ := i61
          have HSS : Hid (Nx wr w') := hS
          have HCA := Lib.hid (Const_any (HLN.out.nx HSS.out) [97] RFI HRLE.out (HM.out.nx ((HN5.out.trans HNX.out).trans HSS.out)))
          clear hin hout hun hd hcl hS
          go_simp
          refine HCA.out.mono ?_; rintro e w2 ⟨hcr, hn2⟩
          obtain ⟨v, H, nm, rfl, hv⟩ := constR_g hcr
          rw [HALL.out]
          dsimp only [bt]
          exact hK w2 _ ⟨v, H, nm, rfl, hv⟩ (HSS.out.trans hn2) (Rw.nx hn2)
        · intro a x ls w' hS hsz hni hcl hun hin hout hd K hK
          obtain ⟨v, H, nm, hvv, hv⟩ := hd ⟨5, .data⟩ (by simp) rfl
          have i62 : a.tmps.getD 62 undef = .tuple #[.string ⟨WI.toArray⟩, v, .string ⟨MI.toArray⟩, .string ⟨H.toArray⟩, .int .i64 (EI : Int)] := (hin 62 5 (by kernel_rfl) (show 62 < 149 by decide)).trans hvv
          have e62 : a.eval (.tmp 62) = .tuple #[.string ⟨WI.toArray⟩, v, .string ⟨MI.toArray⟩, .string ⟨H.toArray⟩, .int .i64 (EI : Int)] := i62
          have HSS := Lib.hid hS
          have HV := Lib.hid hv
          clear hin hout hun hd hcl hS hv hvv
          go_simp
          exact hK w' _ ⟨v, H, nm, rfl, HV.out⟩ HSS.out (Rw.refl _ _)
        · intro a x ls w' hS hsz hni hcl hun hin hout hd K hK
          obtain ⟨v, H, nm, hvv, hv⟩ := hd ⟨6, .data⟩ (by simp) rfl
          have i56 : a.tmps.getD 56 undef = .tuple #[.string ⟨WI.toArray⟩, v, .string ⟨MI.toArray⟩, .string ⟨H.toArray⟩, .int .i64 (EI : Int)] := (hin 56 6 (by kernel_rfl) (show 56 < 149 by decide)).trans hvv
          have e56 : a.eval (.tmp 56) = .tuple #[.string ⟨WI.toArray⟩, v, .string ⟨MI.toArray⟩, .string ⟨H.toArray⟩, .int .i64 (EI : Int)] := i56
          have HSS := Lib.hid hS
          have HV := Lib.hid hv
          clear hin hout hun hd hcl hS hv hvv
          go_simp
          exact hK w' _ rfl HSS.out (Rw.refl _ _)
        · intro a x ls w' hS hsz hni hcl hun hin hout hd K hK
          obtain ⟨v, H, nm, hvv, hv⟩ := hd ⟨6, .data⟩ (by simp) rfl
          have i56 : a.tmps.getD 56 undef = .tuple #[.string ⟨WI.toArray⟩, v, .string ⟨MI.toArray⟩, .string ⟨H.toArray⟩, .int .i64 (EI : Int)] := (hin 56 6 (by kernel_rfl) (show 56 < 149 by decide)).trans hvv
          have e56 : a.eval (.tmp 56) = .tuple #[.string ⟨WI.toArray⟩, v, .string ⟨MI.toArray⟩, .string ⟨H.toArray⟩, .int .i64 (EI : Int)] := i56
          have HSS := Lib.hid hS
          have HV := Lib.hid hv
          clear hin hout hun hd hcl hS hv hvv
          go_simp
          exact hK w' _ ⟨nm, HV.out⟩ HSS.out (Rw.refl _ _)
        · intro a x ls w' hS hsz hni hcl hun hin hout hd K hK
          obtain ⟨v, H, nm, hvv, hv⟩ := hd ⟨6, .data⟩ (by simp) rfl
          have i56 : a.tmps.getD 56 undef = .tuple #[.string ⟨WI.toArray⟩, v, .string ⟨MI.toArray⟩, .string ⟨H.toArray⟩, .int .i64 (EI : Int)] := (hin 56 6 (by kernel_rfl) (show 56 < 149 by decide)).trans hvv
          have e56 : a.eval (.tmp 56) = .tuple #[.string ⟨WI.toArray⟩, v, .string ⟨MI.toArray⟩, .string ⟨H.toArray⟩, .int .i64 (EI : Int)] := i56
          have HSS := Lib.hid hS
          have HV := Lib.hid hv
          clear hin hout hun hd hcl hS hv hvv
          go_simp
          exact hK w' _ rfl HSS.out (Rw.refl _ _)
        · intro a x ls w' hS hsz hni hcl hun hin hout hd K hK
          obtain ⟨v, H, nm, hvv, hv⟩ := hd ⟨6, .data⟩ (by simp) rfl
          have i56 : a.tmps.getD 56 undef = .tuple #[.string ⟨WI.toArray⟩, v, .string ⟨MI.toArray⟩, .string ⟨H.toArray⟩, .int .i64 (EI : Int)] := (hin 56 6 (by kernel_rfl) (show 56 < 149 by decide)).trans hvv
          have e56 : a.eval (.tmp 56) = .tuple #[.string ⟨WI.toArray⟩, v, .string ⟨MI.toArray⟩, .string ⟨H.toArray⟩, .int .i64 (EI : Int)] := i56
          have HSS := Lib.hid hS
          have HV := Lib.hid hv
          clear hin hout hun hd hcl hS hv hvv
          go_simp
          exact hK w' _ ⟨H, rfl⟩ HSS.out (Rw.refl _ _)
        · intro a x ls w' hS hsz hni hcl hun hin hout hd K hK
          obtain ⟨v, H, nm, hvv, hv⟩ := hd ⟨6, .data⟩ (by simp) rfl
          have i56 : a.tmps.getD 56 undef = .tuple #[.string ⟨WI.toArray⟩, v, .string ⟨MI.toArray⟩, .string ⟨H.toArray⟩, .int .i64 (EI : Int)] := (hin 56 6 (by kernel_rfl) (show 56 < 149 by decide)).trans hvv
          have e56 : a.eval (.tmp 56) = .tuple #[.string ⟨WI.toArray⟩, v, .string ⟨MI.toArray⟩, .string ⟨H.toArray⟩, .int .i64 (EI : Int)] := i56
          have HSS := Lib.hid hS
          have HV := Lib.hid hv
          clear hin hout hun hd hcl hS hv hvv
          go_simp
          exact hK w' _ rfl HSS.out (Rw.refl _ _)
        · intro a x ls w' hS hsz hni hcl hun hin hout hd K hK
          have HSS : Hid (Nx wr w') := hS
          clear hin hout hun hd hcl hS
          go_simp
          exact hK (w'.alloc (.cells #[.int .i64 0, .string ⟨#[]⟩, .string ⟨#[]⟩, .int .i64 0, .int .i64 0, .int .u64 0, .string ⟨#[]⟩, .slice none 0 0, .slice none 0 0, .slice none 0 0, .string ⟨#[]⟩, .slice none 0 0] 51)) (.pointer (some ⟨w'.heap.size, 0, none⟩)) ⟨_, rfl, HSS.out.size, _, rfl, (Blk.new w' #[.int .i64 0, .string ⟨#[]⟩, .string ⟨#[]⟩, .int .i64 0, .int .i64 0, .int .u64 0, .string ⟨#[]⟩, .slice none 0 0, .slice none 0 0, .slice none 0 0, .string ⟨#[]⟩, .slice none 0 0] 51).2⟩ (HSS.out.trans (nx0 _ _)) (Rw.nx (nx0 _ _))
        · intro a x ls w' hS hsz hni hcl hun hin hout hd K hK
          have i63 : a.tmps.getD 63 undef = .string ⟨WI.toArray⟩ := (hin 63 7 (by kernel_rfl) (show 63 < 149 by decide)).trans (hd ⟨7, .data⟩ (by simp) rfl)
          have e63 : a.eval (.tmp 63) = .string ⟨WI.toArray⟩ := i63
          have HSS := Lib.hid hS
          clear hin hout hun hd hcl hS
          go_simp
          exact hK w' _ rfl HSS.out (Rw.refl _ _)
        · intro a x ls w' hS hsz hni hcl hun hin hout hd K hK
          obtain ⟨nm, dk, xk, xd, xn, dt, s, de, zA, fB, mA, tA, zu, zc, fu, fc2, mu, mc, tu, tc, hvv⟩ := hd ⟨8, .data⟩ (by simp) rfl
          obtain ⟨gd, hgv, hgw, cs, hcz, hgb⟩ := hd ⟨12, .data⟩ (by simp) rfl
          have i64_ : a.tmps.getD 64 undef = .agg #[.int .i64 (dk : Int), .string ⟨nm.toArray⟩, .string ⟨dt.toArray⟩, .int .i64 (xk : Int), .int .i64 xn, .int .u64 (xd : Int), .string ⟨s.toArray⟩, .slice zA zu zc, .slice fB fu fc2, .slice mA mu mc, .string ⟨de.toArray⟩, .slice tA tu tc] := (hin 64 8 (by kernel_rfl) (show 64 < 149 by decide)).trans hvv
          have e64 : a.eval (.tmp 64) = .agg #[.int .i64 (dk : Int), .string ⟨nm.toArray⟩, .string ⟨dt.toArray⟩, .int .i64 (xk : Int), .int .i64 xn, .int .u64 (xd : Int), .string ⟨s.toArray⟩, .slice zA zu zc, .slice fB fu fc2, .slice mA mu mc, .string ⟨de.toArray⟩, .slice tA tu tc] := i64_
          have i11 : a.tmps.getD 11 undef = .pointer (some ⟨gd, 0, none⟩) := (hin 11 12 (by kernel_rfl) (show 11 < 149 by decide)).trans hgv
          have e11 : a.eval (.tmp 11) = .pointer (some ⟨gd, 0, none⟩) := i11
          obtain ⟨k0, k1, k2, k3, k4, k5, k6, k7, k8, k9, k10, k11, rfl⟩ := arr12 hcz
          have hbk : Blk w' gd gd #[k0, k1, k2, k3, k4, k5, k6, k7, k8, k9, k10, k11] 51 := ⟨Nat.le_refl _, hgb⟩
          have c0 : w'.cell? ⟨gd, 0, none⟩ = some k0 := hbk.cell 0
          have c1 : w'.cell? ⟨gd, 1, none⟩ = some k1 := hbk.cell 1
          have c2 : w'.cell? ⟨gd, 2, none⟩ = some k2 := hbk.cell 2
          have c3 : w'.cell? ⟨gd, 3, none⟩ = some k3 := hbk.cell 3
          have c4 : w'.cell? ⟨gd, 4, none⟩ = some k4 := hbk.cell 4
          have c5 : w'.cell? ⟨gd, 5, none⟩ = some k5 := hbk.cell 5
          have c6 : w'.cell? ⟨gd, 6, none⟩ = some k6 := hbk.cell 6
          have c7 : w'.cell? ⟨gd, 7, none⟩ = some k7 := hbk.cell 7
          have c8 : w'.cell? ⟨gd, 8, none⟩ = some k8 := hbk.cell 8
          have c9 : w'.cell? ⟨gd, 9, none⟩ = some k9 := hbk.cell 9
          have c10 : w'.cell? ⟨gd, 10, none⟩ = some k10 := hbk.cell 10
          have c11 : w'.cell? ⟨gd, 11, none⟩ = some k11 := hbk.cell 11
          have f0 := hbk.free 0
          have f1 := hbk.free 1
          have f2 := hbk.free 2
          have f3 := hbk.free 3
          have f4 := hbk.free 4
          have f5 := hbk.free 5
          have f6 := hbk.free 6
          have f7 := hbk.free 7
          have f8 := hbk.free 8
          have f9 := hbk.free 9
          have f10 := hbk.free 10
          have f11 := hbk.free 11
          have HBK := Lib.hid hbk
          have HSS : Hid (Nx wr w') := hS
          have HGW := Lib.hid hgw
          clear hin hout hun hd hcl hS hbk hgb hcz hvv hgv hgw
          go_simp
          exact hK (wputs w' gd 0 [.int .i64 (dk : Int), .string ⟨nm.toArray⟩, .string ⟨dt.toArray⟩, .int .i64 (xk : Int), .int .i64 xn, .int .u64 (xd : Int), .string ⟨s.toArray⟩, .slice zA zu zc, .slice fB fu fc2, .slice mA mu mc, .string ⟨de.toArray⟩, .slice tA tu tc]) undef trivial (HSS.out.puts HGW.out [.int .i64 (dk : Int), .string ⟨nm.toArray⟩, .string ⟨dt.toArray⟩, .int .i64 (xk : Int), .int .i64 xn, .int .u64 (xd : Int), .string ⟨s.toArray⟩, .slice zA zu zc, .slice fB fu fc2, .slice mA mu mc, .string ⟨de.toArray⟩, .slice tA tu tc] 0) (Rw.puts HBK.out [.int .i64 (dk : Int), .string ⟨nm.toArray⟩, .string ⟨dt.toArray⟩, .int .i64 (xk : Int), .int .i64 xn, .int .u64 (xd : Int), .string ⟨s.toArray⟩, .slice zA zu zc, .slice fB fu fc2, .slice mA mu mc, .string ⟨de.toArray⟩, .slice tA tu tc] rfl)
        · intro a x ls w' hS hsz hni hcl hun hin hout hd K hK
          have i65 : a.tmps.getD 65 undef = .string ⟨MI.toArray⟩ := (hin 65 9 (by kernel_rfl) (show 65 < 149 by decide)).trans (hd ⟨9, .data⟩ (by simp) rfl)
          have e65 : a.eval (.tmp 65) = .string ⟨MI.toArray⟩ := i65
          have HSS := Lib.hid hS
          clear hin hout hun hd hcl hS
          go_simp
          exact hK w' _ rfl HSS.out (Rw.refl _ _)
        · intro a x ls w' hS hsz hni hcl hun hin hout hd K hK
          obtain ⟨H, hvv⟩ := hd ⟨10, .data⟩ (by simp) rfl
          have i66 : a.tmps.getD 66 undef = .string ⟨H.toArray⟩ := (hin 66 10 (by kernel_rfl) (show 66 < 149 by decide)).trans hvv
          have e66 : a.eval (.tmp 66) = .string ⟨H.toArray⟩ := i66
          have HSS := Lib.hid hS
          clear hin hout hun hd hcl hS hvv
          go_simp
          exact hK w' _ ⟨H, rfl⟩ HSS.out (Rw.refl _ _)
        · intro a x ls w' hS hsz hni hcl hun hin hout hd K hK
          have i67 : a.tmps.getD 67 undef = .int .i64 (EI : Int) := (hin 67 11 (by kernel_rfl) (show 67 < 149 by decide)).trans (hd ⟨11, .data⟩ (by simp) rfl)
          have e67 : a.eval (.tmp 67) = .int .i64 (EI : Int) := i67
          have HSS := Lib.hid hS
          clear hin hout hun hd hcl hS
          go_simp
          exact hK w' _ rfl HSS.out (Rw.refl _ _)
      · intro A x ls w' hS hall hin hout hV hA
        have v13 := hV 13 (by decide)
        have v15 := hV 15 (by decide)
        have v17 := hV 17 (by decide)
        have hA2 := hA.out
        have HSS : Hid (Nx wr w') := hS
        clear hA hin hout hV hall hS
        simp only [RI.setAll, List.toList_toArray, List.set_cons_succ, List.set_cons_zero, Nat.reduceAdd] at hA2
        have v13 : x 13 = .string ⟨WI.toArray⟩ := v13
        have v15 : x 15 = .string ⟨MI.toArray⟩ := v15
        have v17 : x 17 = .int .i64 (EI : Int) := v17
        rw [v13, v15, v17] at hA2
        subst hA2
        have w0 : w'.cell? ⟨g4, i, none⟩ = some (.string ⟨WI.toArray⟩) := ((HNX.out.trans HSS.out).cell (p := ⟨g4, i, none⟩) HBW.out.lt).trans HWC.out
        have m0 : w'.cell? ⟨g5, i, none⟩ = some (.string ⟨MI.toArray⟩) := ((HNX.out.trans HSS.out).cell (p := ⟨g5, i, none⟩) HBM.out.lt).trans HMC.out
        have HS2 := HSS.out
        have hnx : Nx w5 w' := HNX.out.trans HS2
        have HN7 := Lib.hid hnx
        clear hnx HS2
        by_cases hw : WI = []
        · have hE : EI = 7 := by have := HEI.out; rw [if_pos hw] at this; exact this.symm
          subst hw hE
          go_wp2_with fail
          go_roundw
          case rel => exact ⟨i + 1, by go_num, HLT.out, HN7.out⟩
          case measure => have := HLT.out; simp [intOf]; omega
        · have hE : EI = 0 := by have := HEI.out; rw [if_neg hw] at this; exact this.symm
          subst hE
          have t1 : WI.isEmpty = false := by cases WI with | nil => exact absurd rfl hw | cons _ _ => rfl
          have t2 : ¬ WI = [] := hw
          clear hw
          go_wp2_with fail
          go_roundw
          case rel => exact ⟨i + 1, by go_num, HLT.out, HN7.out⟩
          case measure => have := HLT.out; simp [intOf]; omega
    · have q1 : decide ((i : Int) < (14 : Int)) = false := decide_eq_false (by omega)
      have q2 : ¬ (i : Int) < (14 : Int) := by omega
      have HL0 := Lib.hid (HLD5.out.nx HNX.out)
      have HA0 := Lib.hid (HN5.out.trans HNX.out)
      have HB0 := Lib.hid (HB5.out.below HNX.out)
      have c0 : wr.cell? ⟨g2, 0, none⟩ = some (.slice nA 3 nc) := HB0.out.cell 0
      have c1 : wr.cell? ⟨g2, 1, none⟩ = some (.slice fA 3 fc) := HB0.out.cell 1
      clear hlt
      go_wp2_with fail
      refine (Find_any HL0.out [98] [99, 46, 69] (by decide) (HM.out.nx HA0.out)).mono ?_; rintro e x1 ⟨hfr, hn⟩
      obtain ⟨v, rfl, hv⟩ := findR_g hfr
      rw [sf_f1] at hv ⊢
      obtain ⟨dk1, xk1, xd1, xn1, dt1, s1, de1, zA1, fB1, mA1, tA1, zu1, zc1, fu1, fc1, mu1, mc1, tu1, tc1, rfl⟩ := hv
      dsimp only [bt]
      obtain ⟨y1, hy1⟩ : ∃ y, x1.alloc (.cells #[.int .i64 (dk1 : Int), .string ⟨([69] : List UInt8).toArray⟩, .string ⟨dt1.toArray⟩, .int .i64 (xk1 : Int), .int .i64 xn1, .int .u64 (xd1 : Int), .string ⟨s1.toArray⟩, .slice zA1 zu1 zc1, .slice fB1 fu1 fc1, .slice mA1 mu1 mc1, .string ⟨de1.toArray⟩, .slice tA1 tu1 tc1] 51) = y := ⟨_, rfl⟩
      have hny : Nx x1 y1 := by rw [← hy1]; exact nx0 _ _
      have HL1 := Lib.hid (HL0.out.nx (hn.trans hny))
      have HA1 := Lib.hid (HA0.out.trans (hn.trans hny))
      have HB1 := Lib.hid (HB0.out.below (hn.trans hny))
      clear c0 c1 hn hny hfr
      have c0 : y1.cell? ⟨g2, 0, none⟩ = some (.slice nA 3 nc) := HB1.out.cell 0
      have c1 : y1.cell? ⟨g2, 1, none⟩ = some (.slice fA 3 fc) := HB1.out.cell 1
      go_wp2_with fail
      clear hy1
      refine (Find_any HL1.out [97] [99, 46, 69] (by decide) (HM.out.nx HA1.out)).mono ?_; rintro e x2 ⟨hfr, hn⟩
      obtain ⟨v, rfl, hv⟩ := findR_g hfr
      have hf := sf_f2
      obtain ⟨WF, hWF⟩ : ∃ x, whoF sfN sfF (findP sfN sfF [97] [99, 46, 69]) = x := ⟨_, rfl⟩
      rw [hWF] at hf hv ⊢
      obtain ⟨W2, U2, Z2, N2⟩ := WF
      obtain rfl : Z2 = 7 := hf
      clear hWF
      obtain ⟨dk2, xk2, xd2, xn2, dt2, s2, de2, zA2, fB2, mA2, tA2, zu2, zc2, fu2, fc2, mu2, mc2, tu2, tc2, rfl⟩ := hv
      dsimp only [bt]
      obtain ⟨y2, hy2⟩ : ∃ y, x2.alloc (.cells #[.int .i64 (dk2 : Int), .string ⟨(N2 : List UInt8).toArray⟩, .string ⟨dt2.toArray⟩, .int .i64 (xk2 : Int), .int .i64 xn2, .int .u64 (xd2 : Int), .string ⟨s2.toArray⟩, .slice zA2 zu2 zc2, .slice fB2 fu2 fc2, .slice mA2 mu2 mc2, .string ⟨de2.toArray⟩, .slice tA2 tu2 tc2] 51) = y := ⟨_, rfl⟩
      have hny : Nx x2 y2 := by rw [← hy2]; exact nx0 _ _
      have HL2 := Lib.hid (HL1.out.nx (hn.trans hny))
      have HA2 := Lib.hid (HA1.out.trans (hn.trans hny))
      have HB2 := Lib.hid (HB1.out.below (hn.trans hny))
      clear c0 c1 hn hny hfr
      have c0 : y2.cell? ⟨g2, 0, none⟩ = some (.slice nA 3 nc) := HB2.out.cell 0
      have c1 : y2.cell? ⟨g2, 1, none⟩ = some (.slice fA 3 fc) := HB2.out.cell 1
      go_wp2_with fail
      clear hy2
      refine (Find_any HL2.out [110, 111, 110, 101] [69] (by decide) (HM.out.nx HA2.out)).mono ?_; rintro e x3 ⟨hfr, hn⟩
      obtain ⟨v, rfl, hv⟩ := findR_g hfr
      have hf := sf_f3
      obtain ⟨WF, hWF⟩ : ∃ x, whoF sfN sfF (findP sfN sfF [110, 111, 110, 101] [69]) = x := ⟨_, rfl⟩
      rw [hWF] at hf hv ⊢
      obtain ⟨W3, U3, Z3, N3⟩ := WF
      obtain rfl : Z3 = 7 := hf
      clear hWF
      obtain ⟨dk3, xk3, xd3, xn3, dt3, s3, de3, zA3, fB3, mA3, tA3, zu3, zc3, fu3, fc3, mu3, mc3, tu3, tc3, rfl⟩ := hv
      dsimp only [bt]
      obtain ⟨y3, hy3⟩ : ∃ y, x3.alloc (.cells #[.int .i64 (dk3 : Int), .string ⟨(N3 : List UInt8).toArray⟩, .string ⟨dt3.toArray⟩, .int .i64 (xk3 : Int), .int .i64 xn3, .int .u64 (xd3 : Int), .string ⟨s3.toArray⟩, .slice zA3 zu3 zc3, .slice fB3 fu3 fc3, .slice mA3 mu3 mc3, .string ⟨de3.toArray⟩, .slice tA3 tu3 tc3] 51) = y := ⟨_, rfl⟩
      have hny : Nx x3 y3 := by rw [← hy3]; exact nx0 _ _
      have HL3 := Lib.hid (HL2.out.nx (hn.trans hny))
      have HA3 := Lib.hid (HA2.out.trans (hn.trans hny))
      have HB3 := Lib.hid (HB2.out.below (hn.trans hny))
      clear c0 c1 hn hny hfr
      have c0 : y3.cell? ⟨g2, 0, none⟩ = some (.slice nA 3 nc) := HB3.out.cell 0
      have c1 : y3.cell? ⟨g2, 1, none⟩ = some (.slice fA 3 fc) := HB3.out.cell 1
      go_wp2_with fail
      clear hy3
      refine (Twice_any y3 _ _ _ _ _ _ _ HL3.out).mono ?_; rintro e wa ⟨rfl, hna⟩
      rw [sf_tw]
      dsimp only [twV, bt, Option.getD, Option.isSome]
      have HNA := Lib.hid (HA3.out.trans hna)
      clear c0 c1 hna
      go_wp2_with fail
      go_ret
      exact ⟨rfl, HNA.out⟩
end Go.Proofs.YtdfiedcajlgglaaGreatDoor
