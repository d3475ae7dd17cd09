/- The walk of OrderForms, given what order's functions are asked for. -/
import Derived.Test.YtiabmkppfbiklaaOrV
set_option linter.unusedVariables false
set_option linter.unusedSimpArgs false
namespace Go.Proofs.Ytiabmkppfbiklaa
open Go.RowKit

theorem Rd.blk {w : World} {B g : Nat} {xs : List Int} {T : TypeId} (h : Blk w B g (xs.map (Value.int .i64)).toArray T) : Rd (Value.int .i64) w (some ⟨g, 0, none⟩) xs := fun _ =>
  ⟨g, 0, rfl, h.lt, fun p hp => by rw [Nat.zero_add, h.cell]; simp [hp]⟩
theorem leafs_rd {w : World} {B n k : Nat} {v : Value} {z : List Int} (h : OwnS valA 5 29 w B v (z.map (leafS k))) : RdL (RdV (n + 1) w) w v (z.map (leafV k)) :=
  RdL.own h (by simp) fun i h1 h2 => by rw [List.getElem_map, List.getElem_map]; exact RdV.leaf n w k _
theorem leafs_net {K : Nat} (n k : Nat) (hk : intK k = true) (z : List Int) (i : List Int) (h1 : lstK K = true ∨ K = 12) (h3 : K = 12 ∨ i = []) (h5 : K < 32 := by decide) (h6 : z.length ≤ 20 := by decide) (h7 : ∀ x ∈ z, -9223372036854775808 ≤ x ∧ x ≤ 9223372036854775807 := by decide) : netV (n + 2) (.mk K 0 [] (z.map (leafV k)) i) :=
  ⟨h5, rfl, by decide, .inr (.inr rfl), h3, by rcases h1 with h | h; exact .inl h; exact .inr (.inl h), by rw [List.length_map]; exact h6, leafs_ok hk h7⟩
set_option maxRecDepth 100000 in
set_option maxHeartbeats 25600000 in
theorem OrderForms_of (hC : ∀ n, CmpC n) (hN : ∀ n, NormC n) (hI : ∀ n, IsC n) (hK : ∀ n, CopyC n) (w : World) :
    Calls Try.prog 4 #[] w fun e w' => e = .returned (.bool true) ∧ Below w.heap.size w w' := by
  have HBG := Lib.hid (orbegun_of hC hN hI hK w)
  have HNO := Lib.hid hN
  have HCM := Lib.hid hC
  have HIS := Lib.hid hI
  clear hC hN hI hK
  go_enter Try.func4, Try.ntmps4
  go_wp2_with fail
  refine HBG.out.mono ?_; rintro e w0 ⟨rfl, hn0⟩
  have HN0 := Lib.hid hn0
  clear hn0 HBG
  obtain ⟨g1, hg1⟩ : ∃ g, w0.heap.size = g := ⟨_, rfl⟩
  obtain ⟨wi2, hwi2⟩ : ∃ x, w0.alloc (.cells #[.int .i64 1, .int .i64 2, .int .i64 1, .int .i64 3] 2) = x := ⟨_, rfl⟩
  have hbg1 : Blk wi2 g1 g1 (([1, 2, 1, 3] : List Int).map (Value.int .i64)).toArray 2 := by rw [← hwi2, ← hg1]; exact Blk.new w0 _ _
  have hng1 : Nx w0 wi2 := by rw [← hwi2]; exact nx0 _ _
  have HN3 := Lib.hid (HN0.out.trans hng1)
  have hrd := Rd.blk hbg1
  go_wp2_with fail
  clear hwi2 hg1 hng1
  refine (values_any wi2 _ ([1, 2, 1, 3] : List Int) 4 4 rfl hrd (by decide)).mono ?_
  rintro e wv4 ⟨v, rfl, hown, hnv⟩
  obtain ⟨A5, c6, hv, -, -, -⟩ := OwnS.sl valA_size hown
  simp only [List.length_map, List.length_cons, List.length_nil, Nat.zero_add, Nat.reduceAdd] at hv
  subst hv
  have HO7 := Lib.hid hown
  clear hown hrd hbg1
  have HN8 := Lib.hid (HN3.out.trans hnv)
  clear HN3
  clear hnv
  have HK9 := Lib.hid (Nx.refl wv4)
  obtain ⟨g10, hg10⟩ : ∃ g, wv4.heap.size = g := ⟨_, rfl⟩
  obtain ⟨wi11, hwi11⟩ : ∃ x, wv4.alloc (.cells #[.int .i64 2, .int .i64 5, .int .i64 1, .int .i64 6, .int .i64 2, .int .i64 5] 2) = x := ⟨_, rfl⟩
  have hbg10 : Blk wi11 g10 g10 (([2, 5, 1, 6, 2, 5] : List Int).map (Value.int .i64)).toArray 2 := by rw [← hwi11, ← hg10]; exact Blk.new wv4 _ _
  have hng10 : Nx wv4 wi11 := by rw [← hwi11]; exact nx0 _ _
  have HN12 := Lib.hid (HN8.out.trans hng10)
  clear HN8
  have HK13 := Lib.hid (HK9.out.trans hng10)
  clear HK9
  have hrd := Rd.blk hbg10
  go_wp2_with fail
  clear hwi11 hg10 hng10
  refine (values_any wi11 _ ([2, 5, 1, 6, 2, 5] : List Int) 6 6 rfl hrd (by decide)).mono ?_
  rintro e wv14 ⟨v, rfl, hown, hnv⟩
  obtain ⟨A15, c16, hv, -, -, -⟩ := OwnS.sl valA_size hown
  simp only [List.length_map, List.length_cons, List.length_nil, Nat.zero_add, Nat.reduceAdd] at hv
  subst hv
  have HO17 := Lib.hid hown
  clear hown hrd hbg10
  have HN18 := Lib.hid (HN12.out.trans hnv)
  clear HN12
  have HK19 := Lib.hid (HK13.out.trans hnv)
  clear HK13
  clear hnv
  have hrv : RdV 2 wv14 ⟨13, 0, [], .slice A15 6 c16, .slice none 0 0⟩ (.mk 13 0 [] (([2, 5, 1, 6, 2, 5] : List Int).map (leafV 3)) []) := ⟨rfl, rfl, rfl, leafs_rd HO17.out, RdI.nil_ _⟩
  have hno := HNO.out 2 _ _ _ hrv (leafs_net 0 3 rfl [2, 5, 1, 6, 2, 5] [] (.inl rfl) (.inr rfl))
  rw [show normV 2 (.mk 13 0 [] (([2, 5, 1, 6, 2, 5] : List Int).map (leafV 3)) []) = (.mk 13 0 [] (([1, 6, 2, 5] : List Int).map (leafV 3)) [], 0) from rfl] at hno
  have HNX := Lib.hid hno
  clear hno hrv
  go_wp2_with fail
  refine HNX.out.mono ?_
  rintro e wn20 ⟨⟨xk28, xn29, xs30, xl, xd⟩, rfl, hry, ⟨lA22, lu23, lc24, rfl⟩, ⟨dA25, du26, dc27, rfl⟩, hnn⟩
  rw [valA_agg]
  clear HNX
  have HN31 := Lib.hid (HN18.out.trans hnn)
  clear HN18
  have HK32 := Lib.hid (HK19.out.trans hnn)
  clear HK19
  have hry0 := hry trivial
  obtain ⟨h1, h2, h3, hl, hd⟩ := hry0
  dsimp only at h1 h2 h3 hl hd
  subst h1 h2 h3
  obtain ⟨gl, off, c, hv, -, hgl, hcell⟩ := RdL.leaf_at (l := [1, 6, 2, 5]) hl (by decide)
  simp only [List.length_cons, List.length_nil, Nat.zero_add, Nat.reduceAdd, Value.slice.injEq] at hv
  obtain ⟨rfl, rfl, rfl⟩ := hv
  obtain ⟨gx33, hgx33⟩ : ∃ g, wn20.heap.size = g := ⟨_, rfl⟩
  obtain ⟨wb34, hwb34⟩ : ∃ x, wn20.alloc (.cells #[.int .i64 13, .int .i64 0, .string ⟨#[]⟩, .slice (some ⟨gl, off, none⟩) 4 lc24, .slice dA25 du26 dc27] 29) = x := ⟨_, rfl⟩
  have hnb : Nx wn20 wb34 := by rw [← hwb34]; exact nx0 _ _
  have hbb : Blk wb34 gx33 gx33 #[.int .i64 13, .int .i64 0, .string ⟨#[]⟩, .slice (some ⟨gl, off, none⟩) 4 lc24, .slice dA25 du26 dc27] 29 := by rw [← hwb34, ← hgx33]; exact Blk.new wn20 _ _
  have HB35 := Lib.hid hbb
  have HC36 : Hid (gl < wb34.heap.size ∧ ∀ i (hi : i < ([1, 6, 2, 5] : List Int).length), wb34.cell? ⟨gl, off + i * 5 + 1, none⟩ = some (.int .i64 ([1, 6, 2, 5] : List Int)[i])) := ⟨Nat.lt_of_lt_of_le hgl hnb.size, fun i hi => (hnb.cell (p := ⟨gl, off + i * 5 + 1, none⟩) hgl).trans (hcell i hi)⟩
  clear hry hl hcell hgl hbb hnn hd
  have HN39 := Lib.hid (HN31.out.trans hnb)
  clear HN31
  have HK40 := Lib.hid (HK32.out.trans hnb)
  clear HK32
  clear hnb
  have HK41 := Lib.hid (Nx.refl wb34)
  obtain ⟨g42, hg42⟩ : ∃ g, wb34.heap.size = g := ⟨_, rfl⟩
  obtain ⟨wi43, hwi43⟩ : ∃ x, wb34.alloc (.cells #[.int .i64 2, .int .i64 5, .int .i64 2, .int .i64 6] 2) = x := ⟨_, rfl⟩
  have hbg42 : Blk wi43 g42 g42 (([2, 5, 2, 6] : List Int).map (Value.int .i64)).toArray 2 := by rw [← hwi43, ← hg42]; exact Blk.new wb34 _ _
  have hng42 : Nx wb34 wi43 := by rw [← hwi43]; exact nx0 _ _
  have HN44 := Lib.hid (HN39.out.trans hng42)
  clear HN39
  have HK45 := Lib.hid (HK40.out.trans hng42)
  clear HK40
  have HK46 := Lib.hid (HK41.out.trans hng42)
  clear HK41
  have hrd := Rd.blk hbg42
  go_wp2_with fail
  clear hwi43 hg42 hng42
  refine (values_any wi43 _ ([2, 5, 2, 6] : List Int) 4 4 rfl hrd (by decide)).mono ?_
  rintro e wv47 ⟨v, rfl, hown, hnv⟩
  obtain ⟨A48, c49, hv, -, -, -⟩ := OwnS.sl valA_size hown
  simp only [List.length_map, List.length_cons, List.length_nil, Nat.zero_add, Nat.reduceAdd] at hv
  subst hv
  have HO50 := Lib.hid hown
  clear hown hrd hbg42
  have HN51 := Lib.hid (HN44.out.trans hnv)
  clear HN44
  have HK52 := Lib.hid (HK45.out.trans hnv)
  clear HK45
  have HK53 := Lib.hid (HK46.out.trans hnv)
  clear HK46
  clear hnv
  have hrv : RdV 2 wv47 ⟨13, 0, [], .slice A48 4 c49, .slice none 0 0⟩ (.mk 13 0 [] (([2, 5, 2, 6] : List Int).map (leafV 3)) []) := ⟨rfl, rfl, rfl, leafs_rd HO50.out, RdI.nil_ _⟩
  have hno := HNO.out 2 _ _ _ hrv (leafs_net 0 3 rfl [2, 5, 2, 6] [] (.inl rfl) (.inr rfl))
  rw [show (normV 2 (.mk 13 0 [] (([2, 5, 2, 6] : List Int).map (leafV 3)) [])).2 = 8 from rfl] at hno
  have HNX := Lib.hid hno
  clear hno hrv
  go_wp2_with fail
  clear hwb34 hgx33
  refine HNX.out.mono ?_
  rintro e wn54 ⟨⟨xk62, xn63, xs64, xl, xd⟩, rfl, hry, ⟨lA56, lu57, lc58, rfl⟩, ⟨dA59, du60, dc61, rfl⟩, hnn⟩
  rw [valA_agg]
  clear HNX
  have HN65 := Lib.hid (HN51.out.trans hnn)
  clear HN51
  have HK66 := Lib.hid (HK52.out.trans hnn)
  clear HK52
  have HK67 := Lib.hid (HK53.out.trans hnn)
  clear HK53
  obtain ⟨gx68, hgx68⟩ : ∃ g, wn54.heap.size = g := ⟨_, rfl⟩
  obtain ⟨wb69, hwb69⟩ : ∃ x, wn54.alloc (.cells #[.int .i64 (xk62 : Int), .int .i64 xn63, .string ⟨xs64.toArray⟩, .slice lA56 lu57 lc58, .slice dA59 du60 dc61] 29) = x := ⟨_, rfl⟩
  have hnb : Nx wn54 wb69 := by rw [← hwb69]; exact nx0 _ _
  clear hry hnn
  have HN70 := Lib.hid (HN65.out.trans hnb)
  clear HN65
  have HK71 := Lib.hid (HK66.out.trans hnb)
  clear HK66
  have HK72 := Lib.hid (HK67.out.trans hnb)
  clear HK67
  clear hnb
  obtain ⟨g73, hg73⟩ : ∃ g, wb69.heap.size = g := ⟨_, rfl⟩
  obtain ⟨wi74, hwi74⟩ : ∃ x, wb69.alloc (.cells #[.int .i64 2] 2) = x := ⟨_, rfl⟩
  have hbg73 : Blk wi74 g73 g73 (([2] : List Int).map (Value.int .i64)).toArray 2 := by rw [← hwi74, ← hg73]; exact Blk.new wb69 _ _
  have hng73 : Nx wb69 wi74 := by rw [← hwi74]; exact nx0 _ _
  have HN75 := Lib.hid (HN70.out.trans hng73)
  clear HN70
  have HK76 := Lib.hid (HK71.out.trans hng73)
  clear HK71
  have HK77 := Lib.hid (HK72.out.trans hng73)
  clear HK72
  have hrd := Rd.blk hbg73
  go_wp2_with fail
  clear hwi74 hg73 hng73
  refine (values_any wi74 _ ([2] : List Int) 1 1 rfl hrd (by decide)).mono ?_
  rintro e wv78 ⟨v, rfl, hown, hnv⟩
  obtain ⟨A79, c80, hv, -, -, -⟩ := OwnS.sl valA_size hown
  simp only [List.length_map, List.length_cons, List.length_nil, Nat.zero_add, Nat.reduceAdd] at hv
  subst hv
  have HO81 := Lib.hid hown
  clear hown hrd hbg73
  have HN82 := Lib.hid (HN75.out.trans hnv)
  clear HN75
  have HK83 := Lib.hid (HK76.out.trans hnv)
  clear HK76
  have HK84 := Lib.hid (HK77.out.trans hnv)
  clear HK77
  clear hnv
  have hrv : RdV 2 wv78 ⟨13, 0, [], .slice A79 1 c80, .slice none 0 0⟩ (.mk 13 0 [] (([2] : List Int).map (leafV 3)) []) := ⟨rfl, rfl, rfl, leafs_rd HO81.out, RdI.nil_ _⟩
  have hno := HNO.out 2 _ _ _ hrv (leafs_net 0 3 rfl [2] [] (.inl rfl) (.inr rfl))
  rw [show (normV 2 (.mk 13 0 [] (([2] : List Int).map (leafV 3)) [])).2 = 1 from rfl] at hno
  have HNX := Lib.hid hno
  clear hno hrv
  go_wp2_with fail
  clear hwb69 hgx68
  refine HNX.out.mono ?_
  rintro e wn85 ⟨⟨xk93, xn94, xs95, xl, xd⟩, rfl, hry, ⟨lA87, lu88, lc89, rfl⟩, ⟨dA90, du91, dc92, rfl⟩, hnn⟩
  rw [valA_agg]
  clear HNX
  have HN96 := Lib.hid (HN82.out.trans hnn)
  clear HN82
  have HK97 := Lib.hid (HK83.out.trans hnn)
  clear HK83
  have HK98 := Lib.hid (HK84.out.trans hnn)
  clear HK84
  obtain ⟨gx99, hgx99⟩ : ∃ g, wn85.heap.size = g := ⟨_, rfl⟩
  obtain ⟨wb100, hwb100⟩ : ∃ x, wn85.alloc (.cells #[.int .i64 (xk93 : Int), .int .i64 xn94, .string ⟨xs95.toArray⟩, .slice lA87 lu88 lc89, .slice dA90 du91 dc92] 29) = x := ⟨_, rfl⟩
  have hnb : Nx wn85 wb100 := by rw [← hwb100]; exact nx0 _ _
  clear hry hnn
  have HN101 := Lib.hid (HN96.out.trans hnb)
  clear HN96
  have HK102 := Lib.hid (HK97.out.trans hnb)
  clear HK97
  have HK103 := Lib.hid (HK98.out.trans hnb)
  clear HK98
  clear hnb
  obtain ⟨g104, hg104⟩ : ∃ g, wb100.heap.size = g := ⟨_, rfl⟩
  obtain ⟨wi105, hwi105⟩ : ∃ x, wb100.alloc (.cells #[.int .i64 1] 3) = x := ⟨_, rfl⟩
  have hbg104 : Blk wi105 g104 g104 (([1] : List Int).map (Value.int .i64)).toArray 3 := by rw [← hwi105, ← hg104]; exact Blk.new wb100 _ _
  have hng104 : Nx wb100 wi105 := by rw [← hwi105]; exact nx0 _ _
  have HN106 := Lib.hid (HN101.out.trans hng104)
  clear HN101
  have HK107 := Lib.hid (HK102.out.trans hng104)
  clear HK102
  have HK108 := Lib.hid (HK103.out.trans hng104)
  clear HK103
  have HRI109 := Lib.hid (Rd.blk hbg104)
  clear hbg104 hng104
  have HK110 := Lib.hid (Nx.refl wi105)
  obtain ⟨g111, hg111⟩ : ∃ g, wi105.heap.size = g := ⟨_, rfl⟩
  obtain ⟨wi112, hwi112⟩ : ∃ x, wi105.alloc (.cells #[.int .i64 1, .int .i64 2] 2) = x := ⟨_, rfl⟩
  have hbg111 : Blk wi112 g111 g111 (([1, 2] : List Int).map (Value.int .i64)).toArray 2 := by rw [← hwi112, ← hg111]; exact Blk.new wi105 _ _
  have hng111 : Nx wi105 wi112 := by rw [← hwi112]; exact nx0 _ _
  have HN113 := Lib.hid (HN106.out.trans hng111)
  clear HN106
  have HK114 := Lib.hid (HK107.out.trans hng111)
  clear HK107
  have HK115 := Lib.hid (HK108.out.trans hng111)
  clear HK108
  have HK116 := Lib.hid (HK110.out.trans hng111)
  clear HK110
  have hrd := Rd.blk hbg111
  go_wp2_with fail
  clear hwi112 hg111 hng111
  refine (values_any wi112 _ ([1, 2] : List Int) 2 2 rfl hrd (by decide)).mono ?_
  rintro e wv117 ⟨v, rfl, hown, hnv⟩
  obtain ⟨A118, c119, hv, -, -, -⟩ := OwnS.sl valA_size hown
  simp only [List.length_map, List.length_cons, List.length_nil, Nat.zero_add, Nat.reduceAdd] at hv
  subst hv
  have HO120 := Lib.hid hown
  clear hown hrd hbg111
  have HN121 := Lib.hid (HN113.out.trans hnv)
  clear HN113
  have HK122 := Lib.hid (HK114.out.trans hnv)
  clear HK114
  have HK123 := Lib.hid (HK115.out.trans hnv)
  clear HK115
  have HK124 := Lib.hid (HK116.out.trans hnv)
  clear HK116
  clear hnv
  have hrv : RdV 2 wv117 ⟨12, 0, [], .slice A118 2 c119, .slice (some ⟨g104, 0, none⟩) 1 1⟩ (.mk 12 0 [] (([1, 2] : List Int).map (leafV 3)) [1]) := ⟨rfl, rfl, rfl, leafs_rd HO120.out, ⟨_, 1, rfl, Nat.le_refl _, by decide, HRI109.out.below HK124.out⟩⟩
  have hno := HNO.out 2 _ _ _ hrv (leafs_net 0 3 rfl [1, 2] [1] (.inr rfl) (.inl rfl))
  rw [show (normV 2 (.mk 12 0 [] (([1, 2] : List Int).map (leafV 3)) [1])).2 = 1 from rfl] at hno
  have HNX := Lib.hid hno
  clear hno hrv
  go_wp2_with fail
  clear hwb100 hgx99 hwi105 hg104
  refine HNX.out.mono ?_
  rintro e wn125 ⟨⟨xk133, xn134, xs135, xl, xd⟩, rfl, hry, ⟨lA127, lu128, lc129, rfl⟩, ⟨dA130, du131, dc132, rfl⟩, hnn⟩
  rw [valA_agg]
  clear HNX
  have HN136 := Lib.hid (HN121.out.trans hnn)
  clear HN121
  have HK137 := Lib.hid (HK122.out.trans hnn)
  clear HK122
  have HK138 := Lib.hid (HK123.out.trans hnn)
  clear HK123
  have HK139 := Lib.hid (HK124.out.trans hnn)
  clear HK124
  obtain ⟨gx140, hgx140⟩ : ∃ g, wn125.heap.size = g := ⟨_, rfl⟩
  obtain ⟨wb141, hwb141⟩ : ∃ x, wn125.alloc (.cells #[.int .i64 (xk133 : Int), .int .i64 xn134, .string ⟨xs135.toArray⟩, .slice lA127 lu128 lc129, .slice dA130 du131 dc132] 29) = x := ⟨_, rfl⟩
  have hnb : Nx wn125 wb141 := by rw [← hwb141]; exact nx0 _ _
  clear hry hnn
  have HN142 := Lib.hid (HN136.out.trans hnb)
  clear HN136
  have HK143 := Lib.hid (HK137.out.trans hnb)
  clear HK137
  have HK144 := Lib.hid (HK138.out.trans hnb)
  clear HK138
  have HK145 := Lib.hid (HK139.out.trans hnb)
  clear HK139
  clear hnb
  obtain ⟨g146, hg146⟩ : ∃ g, wb141.heap.size = g := ⟨_, rfl⟩
  obtain ⟨wi147, hwi147⟩ : ∃ x, wb141.alloc (.cells #[.int .i64 4, .int .i64 (-1)] 3) = x := ⟨_, rfl⟩
  have hbg146 : Blk wi147 g146 g146 (([4, (-1)] : List Int).map (Value.int .i64)).toArray 3 := by rw [← hwi147, ← hg146]; exact Blk.new wb141 _ _
  have hng146 : Nx wb141 wi147 := by rw [← hwi147]; exact nx0 _ _
  have HN148 := Lib.hid (HN142.out.trans hng146)
  clear HN142
  have HK149 := Lib.hid (HK143.out.trans hng146)
  clear HK143
  have HK150 := Lib.hid (HK144.out.trans hng146)
  clear HK144
  have HK151 := Lib.hid (HK145.out.trans hng146)
  clear HK145
  have HRI152 := Lib.hid (Rd.blk hbg146)
  clear hbg146 hng146
  have HK153 := Lib.hid (Nx.refl wi147)
  obtain ⟨g154, hg154⟩ : ∃ g, wi147.heap.size = g := ⟨_, rfl⟩
  obtain ⟨wi155, hwi155⟩ : ∃ x, wi147.alloc (.cells #[.int .i64 7, .int .i64 8] 2) = x := ⟨_, rfl⟩
  have hbg154 : Blk wi155 g154 g154 (([7, 8] : List Int).map (Value.int .i64)).toArray 2 := by rw [← hwi155, ← hg154]; exact Blk.new wi147 _ _
  have hng154 : Nx wi147 wi155 := by rw [← hwi155]; exact nx0 _ _
  have HN156 := Lib.hid (HN148.out.trans hng154)
  clear HN148
  have HK157 := Lib.hid (HK149.out.trans hng154)
  clear HK149
  have HK158 := Lib.hid (HK150.out.trans hng154)
  clear HK150
  have HK159 := Lib.hid (HK151.out.trans hng154)
  clear HK151
  have HK160 := Lib.hid (HK153.out.trans hng154)
  clear HK153
  have hrd := Rd.blk hbg154
  go_wp2_with fail
  clear hwi155 hg154 hng154
  refine (values_any wi155 _ ([7, 8] : List Int) 2 2 rfl hrd (by decide)).mono ?_
  rintro e wv161 ⟨v, rfl, hown, hnv⟩
  obtain ⟨A162, c163, hv, -, -, -⟩ := OwnS.sl valA_size hown
  simp only [List.length_map, List.length_cons, List.length_nil, Nat.zero_add, Nat.reduceAdd] at hv
  subst hv
  have HO164 := Lib.hid hown
  clear hown hrd hbg154
  have HN165 := Lib.hid (HN156.out.trans hnv)
  clear HN156
  have HK166 := Lib.hid (HK157.out.trans hnv)
  clear HK157
  have HK167 := Lib.hid (HK158.out.trans hnv)
  clear HK158
  have HK168 := Lib.hid (HK159.out.trans hnv)
  clear HK159
  have HK169 := Lib.hid (HK160.out.trans hnv)
  clear HK160
  clear hnv
  have hrv : RdV 2 wv161 ⟨12, 0, [], .slice A162 2 c163, .slice (some ⟨g146, 0, none⟩) 2 2⟩ (.mk 12 0 [] (([7, 8] : List Int).map (leafV 3)) [4, (-1)]) := ⟨rfl, rfl, rfl, leafs_rd HO164.out, ⟨_, 2, rfl, Nat.le_refl _, by decide, HRI152.out.below HK169.out⟩⟩
  have hno := HNO.out 2 _ _ _ hrv (leafs_net 0 3 rfl [7, 8] [4, (-1)] (.inr rfl) (.inl rfl))
  rw [show normV 2 (.mk 12 0 [] (([7, 8] : List Int).map (leafV 3)) [4, (-1)]) = (.mk 12 0 [] (([8, 7] : List Int).map (leafV 3)) [(-1), 4], 0) from rfl] at hno
  have HNX := Lib.hid hno
  clear hno hrv
  go_wp2_with fail
  clear hwb141 hgx140 hwi147 hg146
  refine HNX.out.mono ?_
  rintro e wn170 ⟨⟨xk178, xn179, xs180, xl, xd⟩, rfl, hry, ⟨lA172, lu173, lc174, rfl⟩, ⟨dA175, du176, dc177, rfl⟩, hnn⟩
  rw [valA_agg]
  clear HNX
  have HN181 := Lib.hid (HN165.out.trans hnn)
  clear HN165
  have HK182 := Lib.hid (HK166.out.trans hnn)
  clear HK166
  have HK183 := Lib.hid (HK167.out.trans hnn)
  clear HK167
  have HK184 := Lib.hid (HK168.out.trans hnn)
  clear HK168
  have HK185 := Lib.hid (HK169.out.trans hnn)
  clear HK169
  have hry0 := hry trivial
  obtain ⟨h1, h2, h3, hl, hd⟩ := hry0
  dsimp only at h1 h2 h3 hl hd
  subst h1 h2 h3
  obtain ⟨gl, off, c, hv, -, hgl, hcell⟩ := RdL.leaf_at (l := [8, 7]) hl (by decide)
  simp only [List.length_cons, List.length_nil, Nat.zero_add, Nat.reduceAdd, Value.slice.injEq] at hv
  obtain ⟨rfl, rfl, rfl⟩ := hv
  obtain ⟨Ai, ci, hv, -, -, hri⟩ := hd
  simp only [List.length_cons, List.length_nil, Nat.zero_add, Nat.reduceAdd, Value.slice.injEq] at hv
  obtain ⟨rfl, rfl, rfl⟩ := hv
  obtain ⟨gi, offi, rfl, hgi, hci⟩ := hri.at_ (show 0 < ([(-1), 4] : List Int).length by decide)
  obtain ⟨gx186, hgx186⟩ : ∃ g, wn170.heap.size = g := ⟨_, rfl⟩
  obtain ⟨wb187, hwb187⟩ : ∃ x, wn170.alloc (.cells #[.int .i64 12, .int .i64 0, .string ⟨#[]⟩, .slice (some ⟨gl, off, none⟩) 2 lc174, .slice (some ⟨gi, offi, none⟩) 2 dc177] 29) = x := ⟨_, rfl⟩
  have hnb : Nx wn170 wb187 := by rw [← hwb187]; exact nx0 _ _
  have hbb : Blk wb187 gx186 gx186 #[.int .i64 12, .int .i64 0, .string ⟨#[]⟩, .slice (some ⟨gl, off, none⟩) 2 lc174, .slice (some ⟨gi, offi, none⟩) 2 dc177] 29 := by rw [← hwb187, ← hgx186]; exact Blk.new wn170 _ _
  have HB188 := Lib.hid hbb
  have HC189 : Hid (gl < wb187.heap.size ∧ ∀ i (hi : i < ([8, 7] : List Int).length), wb187.cell? ⟨gl, off + i * 5 + 1, none⟩ = some (.int .i64 ([8, 7] : List Int)[i])) := ⟨Nat.lt_of_lt_of_le hgl hnb.size, fun i hi => (hnb.cell (p := ⟨gl, off + i * 5 + 1, none⟩) hgl).trans (hcell i hi)⟩
  have HI190 : Hid (gi < wb187.heap.size ∧ wb187.cell? ⟨gi, offi, none⟩ = some (.int .i64 (-1))) := ⟨Nat.lt_of_lt_of_le hgi hnb.size, (hnb.cell (p := ⟨gi, offi, none⟩) hgi).trans hci⟩
  clear hry hl hcell hgl hbb hnn hri hgi hci
  have HN193 := Lib.hid (HN181.out.trans hnb)
  clear HN181
  have HK194 := Lib.hid (HK182.out.trans hnb)
  clear HK182
  have HK195 := Lib.hid (HK183.out.trans hnb)
  clear HK183
  have HK196 := Lib.hid (HK184.out.trans hnb)
  clear HK184
  have HK197 := Lib.hid (HK185.out.trans hnb)
  clear HK185
  clear hnb
  have HK198 := Lib.hid (Nx.refl wb187)
  obtain ⟨g199, hg199⟩ : ∃ g, wb187.heap.size = g := ⟨_, rfl⟩
  obtain ⟨wi200, hwi200⟩ : ∃ x, wb187.alloc (.cells #[.int .i64 4, .int .i64 4] 3) = x := ⟨_, rfl⟩
  have hbg199 : Blk wi200 g199 g199 (([4, 4] : List Int).map (Value.int .i64)).toArray 3 := by rw [← hwi200, ← hg199]; exact Blk.new wb187 _ _
  have hng199 : Nx wb187 wi200 := by rw [← hwi200]; exact nx0 _ _
  have HN201 := Lib.hid (HN193.out.trans hng199)
  clear HN193
  have HK202 := Lib.hid (HK194.out.trans hng199)
  clear HK194
  have HK203 := Lib.hid (HK195.out.trans hng199)
  clear HK195
  have HK204 := Lib.hid (HK196.out.trans hng199)
  clear HK196
  have HK205 := Lib.hid (HK197.out.trans hng199)
  clear HK197
  have HK206 := Lib.hid (HK198.out.trans hng199)
  clear HK198
  have HRI207 := Lib.hid (Rd.blk hbg199)
  clear hbg199 hng199
  have HK208 := Lib.hid (Nx.refl wi200)
  obtain ⟨g209, hg209⟩ : ∃ g, wi200.heap.size = g := ⟨_, rfl⟩
  obtain ⟨wi210, hwi210⟩ : ∃ x, wi200.alloc (.cells #[.int .i64 7, .int .i64 7] 2) = x := ⟨_, rfl⟩
  have hbg209 : Blk wi210 g209 g209 (([7, 7] : List Int).map (Value.int .i64)).toArray 2 := by rw [← hwi210, ← hg209]; exact Blk.new wi200 _ _
  have hng209 : Nx wi200 wi210 := by rw [← hwi210]; exact nx0 _ _
  have HN211 := Lib.hid (HN201.out.trans hng209)
  clear HN201
  have HK212 := Lib.hid (HK202.out.trans hng209)
  clear HK202
  have HK213 := Lib.hid (HK203.out.trans hng209)
  clear HK203
  have HK214 := Lib.hid (HK204.out.trans hng209)
  clear HK204
  have HK215 := Lib.hid (HK205.out.trans hng209)
  clear HK205
  have HK216 := Lib.hid (HK206.out.trans hng209)
  clear HK206
  have HK217 := Lib.hid (HK208.out.trans hng209)
  clear HK208
  have hrd := Rd.blk hbg209
  go_wp2_with fail
  clear hwi210 hg209 hng209
  refine (values_any wi210 _ ([7, 7] : List Int) 2 2 rfl hrd (by decide)).mono ?_
  rintro e wv218 ⟨v, rfl, hown, hnv⟩
  obtain ⟨A219, c220, hv, -, -, -⟩ := OwnS.sl valA_size hown
  simp only [List.length_map, List.length_cons, List.length_nil, Nat.zero_add, Nat.reduceAdd] at hv
  subst hv
  have HO221 := Lib.hid hown
  clear hown hrd hbg209
  have HN222 := Lib.hid (HN211.out.trans hnv)
  clear HN211
  have HK223 := Lib.hid (HK212.out.trans hnv)
  clear HK212
  have HK224 := Lib.hid (HK213.out.trans hnv)
  clear HK213
  have HK225 := Lib.hid (HK214.out.trans hnv)
  clear HK214
  have HK226 := Lib.hid (HK215.out.trans hnv)
  clear HK215
  have HK227 := Lib.hid (HK216.out.trans hnv)
  clear HK216
  have HK228 := Lib.hid (HK217.out.trans hnv)
  clear HK217
  clear hnv
  have hrv : RdV 2 wv218 ⟨12, 0, [], .slice A219 2 c220, .slice (some ⟨g199, 0, none⟩) 2 2⟩ (.mk 12 0 [] (([7, 7] : List Int).map (leafV 3)) [4, 4]) := ⟨rfl, rfl, rfl, leafs_rd HO221.out, ⟨_, 2, rfl, Nat.le_refl _, by decide, HRI207.out.below HK228.out⟩⟩
  have hno := HNO.out 2 _ _ _ hrv (leafs_net 0 3 rfl [7, 7] [4, 4] (.inr rfl) (.inl rfl))
  rw [show (normV 2 (.mk 12 0 [] (([7, 7] : List Int).map (leafV 3)) [4, 4])).2 = 8 from rfl] at hno
  have HNX := Lib.hid hno
  clear hno hrv
  go_wp2_with fail
  clear hwb187 hgx186 hwi200 hg199
  refine HNX.out.mono ?_
  rintro e wn229 ⟨⟨xk237, xn238, xs239, xl, xd⟩, rfl, hry, ⟨lA231, lu232, lc233, rfl⟩, ⟨dA234, du235, dc236, rfl⟩, hnn⟩
  rw [valA_agg]
  clear HNX
  have HN240 := Lib.hid (HN222.out.trans hnn)
  clear HN222
  have HK241 := Lib.hid (HK223.out.trans hnn)
  clear HK223
  have HK242 := Lib.hid (HK224.out.trans hnn)
  clear HK224
  have HK243 := Lib.hid (HK225.out.trans hnn)
  clear HK225
  have HK244 := Lib.hid (HK226.out.trans hnn)
  clear HK226
  have HK245 := Lib.hid (HK227.out.trans hnn)
  clear HK227
  have HK246 := Lib.hid (HK228.out.trans hnn)
  clear HK228
  obtain ⟨gx247, hgx247⟩ : ∃ g, wn229.heap.size = g := ⟨_, rfl⟩
  obtain ⟨wb248, hwb248⟩ : ∃ x, wn229.alloc (.cells #[.int .i64 (xk237 : Int), .int .i64 xn238, .string ⟨xs239.toArray⟩, .slice lA231 lu232 lc233, .slice dA234 du235 dc236] 29) = x := ⟨_, rfl⟩
  have hnb : Nx wn229 wb248 := by rw [← hwb248]; exact nx0 _ _
  clear hry hnn
  have HN249 := Lib.hid (HN240.out.trans hnb)
  clear HN240
  have HK250 := Lib.hid (HK241.out.trans hnb)
  clear HK241
  have HK251 := Lib.hid (HK242.out.trans hnb)
  clear HK242
  have HK252 := Lib.hid (HK243.out.trans hnb)
  clear HK243
  have HK253 := Lib.hid (HK244.out.trans hnb)
  clear HK244
  have HK254 := Lib.hid (HK245.out.trans hnb)
  clear HK245
  have HK255 := Lib.hid (HK246.out.trans hnb)
  clear HK246
  clear hnb
  have hrv : RdV 2 wb248 ⟨15, 0, [], .slice A5 4 c6, .slice none 0 0⟩ (.mk 15 0 [] (([1, 2, 1, 3] : List Int).map (leafV 3)) []) := ⟨rfl, rfl, rfl, leafs_rd (HO7.out.nx HK250.out), RdI.nil_ _⟩
  have hno := HNO.out 2 _ _ _ hrv (leafs_net 0 3 rfl [1, 2, 1, 3] [] (.inl rfl) (.inr rfl))
  rw [show normV 2 (.mk 15 0 [] (([1, 2, 1, 3] : List Int).map (leafV 3)) []) = (.mk 15 0 [] (([1, 2, 1, 3] : List Int).map (leafV 3)) [], 0) from rfl] at hno
  have HNX := Lib.hid hno
  clear hno hrv
  go_wp2_with fail
  clear hwb248 hgx247
  refine HNX.out.mono ?_
  rintro e wn256 ⟨⟨xk264, xn265, xs266, xl, xd⟩, rfl, hry, ⟨lA258, lu259, lc260, rfl⟩, ⟨dA261, du262, dc263, rfl⟩, hnn⟩
  rw [valA_agg]
  clear HNX
  have HN267 := Lib.hid (HN249.out.trans hnn)
  clear HN249
  have HK268 := Lib.hid (HK250.out.trans hnn)
  clear HK250
  have HK269 := Lib.hid (HK251.out.trans hnn)
  clear HK251
  have HK270 := Lib.hid (HK252.out.trans hnn)
  clear HK252
  have HK271 := Lib.hid (HK253.out.trans hnn)
  clear HK253
  have HK272 := Lib.hid (HK254.out.trans hnn)
  clear HK254
  have HK273 := Lib.hid (HK255.out.trans hnn)
  clear HK255
  have hry0 := hry trivial
  obtain ⟨h1, h2, h3, hl, hd⟩ := hry0
  dsimp only at h1 h2 h3 hl hd
  subst h1 h2 h3
  obtain ⟨gl, off, c, hv, -, hgl, hcell⟩ := RdL.leaf_at (l := [1, 2, 1, 3]) hl (by decide)
  simp only [List.length_cons, List.length_nil, Nat.zero_add, Nat.reduceAdd, Value.slice.injEq] at hv
  obtain ⟨rfl, rfl, rfl⟩ := hv
  obtain ⟨gx274, hgx274⟩ : ∃ g, wn256.heap.size = g := ⟨_, rfl⟩
  obtain ⟨wb275, hwb275⟩ : ∃ x, wn256.alloc (.cells #[.int .i64 15, .int .i64 0, .string ⟨#[]⟩, .slice (some ⟨gl, off, none⟩) 4 lc260, .slice dA261 du262 dc263] 29) = x := ⟨_, rfl⟩
  have hnb : Nx wn256 wb275 := by rw [← hwb275]; exact nx0 _ _
  have hbb : Blk wb275 gx274 gx274 #[.int .i64 15, .int .i64 0, .string ⟨#[]⟩, .slice (some ⟨gl, off, none⟩) 4 lc260, .slice dA261 du262 dc263] 29 := by rw [← hwb275, ← hgx274]; exact Blk.new wn256 _ _
  have HB276 := Lib.hid hbb
  have HC277 : Hid (gl < wb275.heap.size ∧ ∀ i (hi : i < ([1, 2, 1, 3] : List Int).length), wb275.cell? ⟨gl, off + i * 5 + 1, none⟩ = some (.int .i64 ([1, 2, 1, 3] : List Int)[i])) := ⟨Nat.lt_of_lt_of_le hgl hnb.size, fun i hi => (hnb.cell (p := ⟨gl, off + i * 5 + 1, none⟩) hgl).trans (hcell i hi)⟩
  clear hry hl hcell hgl hbb hnn hd
  have HN280 := Lib.hid (HN267.out.trans hnb)
  clear HN267
  have HK281 := Lib.hid (HK268.out.trans hnb)
  clear HK268
  have HK282 := Lib.hid (HK269.out.trans hnb)
  clear HK269
  have HK283 := Lib.hid (HK270.out.trans hnb)
  clear HK270
  have HK284 := Lib.hid (HK271.out.trans hnb)
  clear HK271
  have HK285 := Lib.hid (HK272.out.trans hnb)
  clear HK272
  have HK286 := Lib.hid (HK273.out.trans hnb)
  clear HK273
  clear hnb
  have HK287 := Lib.hid (Nx.refl wb275)
  obtain ⟨gd, hgd⟩ : ∃ g, wb275.heap.size = g := ⟨_, rfl⟩
  obtain ⟨wd, hwd⟩ : ∃ x, wb275.alloc (.cells #[.int .i64 4, .int .i64 (-1), .string ⟨#[]⟩, .slice none 0 0, .slice none 0 0] 29) = x := ⟨_, rfl⟩
  have hbb : Blk wd gd gd #[.int .i64 4, .int .i64 (-1), .string ⟨#[]⟩, .slice none 0 0, .slice none 0 0] 29 := by rw [← hwd, ← hgd]; exact Blk.new wb275 _ _
  have hnb : Nx wb275 wd := by rw [← hwd]; exact nx0 _ _
  have HN288 := Lib.hid (HN280.out.trans hnb)
  clear HN280
  have HK289 := Lib.hid (HK281.out.trans hnb)
  clear HK281
  have HK290 := Lib.hid (HK282.out.trans hnb)
  clear HK282
  have HK291 := Lib.hid (HK283.out.trans hnb)
  clear HK283
  have HK292 := Lib.hid (HK284.out.trans hnb)
  clear HK284
  have HK293 := Lib.hid (HK285.out.trans hnb)
  clear HK285
  have HK294 := Lib.hid (HK286.out.trans hnb)
  clear HK286
  have HK295 := Lib.hid (HK287.out.trans hnb)
  clear HK287
  have HBD := Lib.hid hbb
  have HWD := Lib.hid hwd
  clear hnb hbb hwd
  go_upto_region 12 with (fail)
  rw [HWD.out]
  clear HWD hgd hwb275 hgx274
  have d0 := HBD.out.cell 0
  have d1 := HBD.out.cell 1
  have d2 := HBD.out.cell 2
  have d3 := HBD.out.cell 3
  have d4 := HBD.out.cell 4
  simp only [List.getElem?_toArray, List.getElem?_cons_succ, List.getElem?_cons_zero, List.getElem_cons_succ, List.getElem_cons_zero, Nat.zero_mul, Nat.one_mul, Nat.add_zero] at d0 d1 d2 d3 d4
  have a3 := (HK290.out.cell (p := ⟨_, 3, none⟩) HB35.out.lt).trans (HB35.out.cell 3)
  simp only [List.getElem?_toArray, List.getElem?_cons_succ, List.getElem?_cons_zero, List.getElem_cons_succ, List.getElem_cons_zero, Nat.zero_mul, Nat.one_mul, Nat.add_zero] at a3
  have b3 := (HK293.out.cell (p := ⟨_, 3, none⟩) HB188.out.lt).trans (HB188.out.cell 3)
  simp only [List.getElem?_toArray, List.getElem?_cons_succ, List.getElem?_cons_zero, List.getElem_cons_succ, List.getElem_cons_zero, Nat.zero_mul, Nat.one_mul, Nat.add_zero] at b3
  have c3 := (HK295.out.cell (p := ⟨_, 3, none⟩) HB276.out.lt).trans (HB276.out.cell 3)
  simp only [List.getElem?_toArray, List.getElem?_cons_succ, List.getElem?_cons_zero, List.getElem_cons_succ, List.getElem_cons_zero, Nat.zero_mul, Nat.one_mul, Nat.add_zero] at c3
  have ae0 := (HK290.out.cell (p := ⟨_, _, none⟩) HC36.out.1).trans (HC36.out.2 0 (by decide))
  simp only [List.getElem?_toArray, List.getElem?_cons_succ, List.getElem?_cons_zero, List.getElem_cons_succ, List.getElem_cons_zero, Nat.zero_mul, Nat.one_mul, Nat.add_zero] at ae0
  have ae1 := (HK290.out.cell (p := ⟨_, _, none⟩) HC36.out.1).trans (HC36.out.2 1 (by decide))
  simp only [List.getElem?_toArray, List.getElem?_cons_succ, List.getElem?_cons_zero, List.getElem_cons_succ, List.getElem_cons_zero, Nat.zero_mul, Nat.one_mul, Nat.add_zero] at ae1
  have be0 := (HK293.out.cell (p := ⟨_, _, none⟩) HC189.out.1).trans (HC189.out.2 0 (by decide))
  simp only [List.getElem?_toArray, List.getElem?_cons_succ, List.getElem?_cons_zero, List.getElem_cons_succ, List.getElem_cons_zero, Nat.zero_mul, Nat.one_mul, Nat.add_zero] at be0
  have b4 := (HK293.out.cell (p := ⟨_, 4, none⟩) HB188.out.lt).trans (HB188.out.cell 4)
  simp only [List.getElem?_toArray, List.getElem?_cons_succ, List.getElem?_cons_zero, List.getElem_cons_succ, List.getElem_cons_zero, Nat.zero_mul, Nat.one_mul, Nat.add_zero] at b4
  have bi := (HK293.out.cell (p := ⟨_, _, none⟩) HI190.out.1).trans HI190.out.2
  go_wp2_with fail
  refine (HCM.out 1 wd (leafS 4 (-1)) (leafS 4 0) (leafV 4 (-1)) (leafV 4 0) (RdV.leaf 0 _ 4 (-1)) (RdV.leaf 0 _ 4 0) (leaf_okV 0 (by decide) (by decide) (by decide)) (leaf_okV 0 (by decide) (by decide) (by decide))).mono ?_
  rintro e we1 ⟨rfl, hq⟩
  rw [show cmpV 1 (leafV 4 (-1)) (leafV 4 0) = 1 from rfl]
  clear a3 b3 c3 ae0 ae1 be0 b4 bi d0 d1 d2 d3 d4
  have HN296 := Lib.hid (HN288.out.trans hq)
  clear HN288
  have HK297 := Lib.hid (HK289.out.trans hq)
  clear HK289
  have HK298 := Lib.hid (HK290.out.trans hq)
  clear HK290
  have HK299 := Lib.hid (HK291.out.trans hq)
  clear HK291
  have HK300 := Lib.hid (HK292.out.trans hq)
  clear HK292
  have HK301 := Lib.hid (HK293.out.trans hq)
  clear HK293
  have HK302 := Lib.hid (HK294.out.trans hq)
  clear HK294
  have HK303 := Lib.hid (HK295.out.trans hq)
  clear HK295
  clear hq
  go_wp2_with fail
  refine (HCM.out 1 we1 (leafS 3 0) (leafS 2 0) (leafV 3 0) (leafV 2 0) (RdV.leaf 0 _ 3 0) (RdV.leaf 0 _ 2 0) (leaf_okV 0 (by decide) (by decide) (by decide)) (leaf_okV 0 (by decide) (by decide) (by decide))).mono ?_
  rintro e we2 ⟨rfl, hq⟩
  rw [show cmpV 1 (leafV 3 0) (leafV 2 0) = 1 from rfl]
  have HN304 := Lib.hid (HN296.out.trans hq)
  clear HN296
  have HK305 := Lib.hid (HK297.out.trans hq)
  clear HK297
  have HK306 := Lib.hid (HK298.out.trans hq)
  clear HK298
  have HK307 := Lib.hid (HK299.out.trans hq)
  clear HK299
  have HK308 := Lib.hid (HK300.out.trans hq)
  clear HK300
  have HK309 := Lib.hid (HK301.out.trans hq)
  clear HK301
  have HK310 := Lib.hid (HK302.out.trans hq)
  clear HK302
  have HK311 := Lib.hid (HK303.out.trans hq)
  clear HK303
  clear hq
  go_wp2_with fail
  refine (HIS.out 2 we2 ⟨14, 0, [], .slice A5 4 c6, .slice none 0 0⟩ (.mk 14 0 [] (([1, 2, 1, 3] : List Int).map (leafV 3)) []) ⟨rfl, rfl, rfl, leafs_rd (HO7.out.nx HK305.out), RdI.nil_ _⟩ (leafs_net 0 3 rfl [1, 2, 1, 3] [] (.inl rfl) (.inr rfl)) (leafs_okV 0 (by decide) (by decide) (by decide) (by decide) [])).mono ?_
  rintro e we3 ⟨rfl, hq⟩
  rw [show (decide ((normV 2 (.mk 14 0 [] (([1, 2, 1, 3] : List Int).map (leafV 3)) [])).2 = 0) && decide (cmpV 2 (.mk 14 0 [] (([1, 2, 1, 3] : List Int).map (leafV 3)) []) (normV 2 (.mk 14 0 [] (([1, 2, 1, 3] : List Int).map (leafV 3)) [])).1 = 0)) = false from rfl]
  have HN312 := Lib.hid (HN304.out.trans hq)
  clear HN304
  have HK313 := Lib.hid (HK305.out.trans hq)
  clear HK305
  have HK314 := Lib.hid (HK306.out.trans hq)
  clear HK306
  have HK315 := Lib.hid (HK307.out.trans hq)
  clear HK307
  have HK316 := Lib.hid (HK308.out.trans hq)
  clear HK308
  have HK317 := Lib.hid (HK309.out.trans hq)
  clear HK309
  have HK318 := Lib.hid (HK310.out.trans hq)
  clear HK310
  have HK319 := Lib.hid (HK311.out.trans hq)
  clear HK311
  clear hq
  go_wp2_with fail
  refine (HIS.out 1 we3 (leafS 13 0) (leafV 13 0) (RdV.leaf 0 _ 13 0) ⟨by decide, rfl, by decide, .inr (.inr rfl), .inr rfl, .inl rfl, by decide, (fun _ h => by cases h)⟩ (leaf_okV 0 (by decide) (by decide) (by decide))).mono ?_
  rintro e we4 ⟨rfl, hq⟩
  rw [show (decide ((normV 1 (leafV 13 0)).2 = 0) && decide (cmpV 1 (leafV 13 0) (normV 1 (leafV 13 0)).1 = 0)) = true from rfl]
  have HN320 := Lib.hid (HN312.out.trans hq)
  clear HN312
  have HK321 := Lib.hid (HK313.out.trans hq)
  clear HK313
  have HK322 := Lib.hid (HK314.out.trans hq)
  clear HK314
  have HK323 := Lib.hid (HK315.out.trans hq)
  clear HK315
  have HK324 := Lib.hid (HK316.out.trans hq)
  clear HK316
  have HK325 := Lib.hid (HK317.out.trans hq)
  clear HK317
  have HK326 := Lib.hid (HK318.out.trans hq)
  clear HK318
  have HK327 := Lib.hid (HK319.out.trans hq)
  clear HK319
  clear hq
  go_wp2_with fail
  go_ret
  exact ⟨rfl, HN320.out⟩
end Go.Proofs.Ytiabmkppfbiklaa
