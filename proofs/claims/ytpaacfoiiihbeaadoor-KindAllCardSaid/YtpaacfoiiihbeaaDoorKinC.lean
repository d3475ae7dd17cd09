/- What the parser of types needs, and leaves. -/
import Derived.Test.YtpaacfoiiihbeaaDoorKinB
import Derived.Test.YtpaacfoiiihbeaaDoorKinR
set_option linter.unusedVariables false
set_option linter.unusedSimpArgs false
namespace Go.Proofs.YtpaacfoiiihbeaaDoor
open Go.RowKit

theorem results_cell_tmp_rowK {P : Program} {fn : Func} {p u : Tmp} {ty : TypeId} (h : fn.results = #[.cell p ty, .tmp u]) (tmps : Array Value) (w : World) (g : Nat) (t : TypeId) (cs : Array Value) (fr : Nat × Nat) (d : TypeDesc)
    (hp : tmps.getD p undef = .pointer (some ⟨g, 0, none⟩)) (hg : w.heap[g]? = some (.cells cs t fr))
    (hu : P.underlying ty = some d) (hd : (match d with | .struct _ | .array _ _ => true | _ => false) = true) (hi : (P.info? ty).map (·.size) = some cs.size) :
    (results fn tmps).run P w = .ok (.tuple #[.agg cs, tmps.getD u undef]) w := by
  have hp' : tmps[p]?.getD undef = .pointer (some ⟨g, 0, none⟩) := by simpa using hp
  simp [results, h, hp', asAddr, run_loadVar_row w g t ty cs fr d hg hu hd hi]

/-- append of one name onto the names -/
theorem wpList_appN (w : World) {ops : Array Oper} {rest : List Oper} {o : Oper} {a : Act} {Q : Exit → Act → World → Prop} (hgd : o.guard = none) (s x : Operand)
    (ho : o.op = .call { callee := .builtin .append, args := #[s, x], argTypes := #[30, 30] })
    (B : Nat) (v : Value) (xs : List ByteArray) (y : ByteArray) (hs : a.eval s = v) (hown : OwnN w B v xs) (g : Nat) (hx : a.eval x = .slice (some ⟨g, 0, none⟩) 1 1)
    (hy : w.cell? ⟨g, 0, none⟩ = some (.string y)) (h63 : (xs.length : Int) ≤ 100000) (hB : B ≤ w.heap.size)
    (h : ∀ v' w', OwnN w' B v' (xs ++ [y]) → (∀ b, Fr b v w v' w') → wpList Tryd.prog ops Q rest (a.put o.dst v') w') : wpList Tryd.prog ops Q (o :: rest) a w := by
  refine wpList_plain hgd fun K hK => ?_
  obtain ⟨i, hi, hz, h1, h2⟩ := info_parts (show (Tryd.prog.info? 9).map (fun i => (i.zero, i.size, i.bytes)) = some (some (.string ⟨#[]⟩), 1, 16) by kernel_rfl)
  have hcells : ∀ j u, ((strC y).toList)[j]? = some u → w.cell? ((⟨g, 0, none⟩ : Addr).add j) = some u := by
    intro j u hu
    have hj : j = 0 := by
      rcases Nat.eq_zero_or_pos j with h | h
      · exact h
      · rw [List.getElem?_eq_none (by show (strC y).size ≤ j; rw [strC_size]; exact h)] at hu; cases hu
    subst hj
    rw [Addr.add_lit, Nat.zero_add, hy, ← hu]; rfl
  obtain ⟨v', w', hrun, ho', hg, _, hloc⟩ := run_append_own_at (P := Tryd.prog) w B 30 o.type 9 i _ 1 16 Tryd.underlying30 hi hz h1 h2 rfl (by decide) v xs.length (rowL strC xs) hown ⟨g, 0, none⟩ 1 1 (strC y).toList (by rfl) hcells (by intro u hu; simp [strC] at hu; subst hu; rfl) (by simp [maxLen]; omega)
    (by omega) hB
  have hown' : OwnN w' B v' (xs ++ [y]) := by
    unfold OwnN OwnS
    rw [List.length_append, rowL_snoc]
    exact ho'
  have hFr : ∀ b, Fr b v w v' w' := fun b => ⟨hg.os, hg.tape, hg.output, hg.size, fun k hk hb hv => hg.block k hk (Ne.symm hv), fun k e => by
    rcases hloc with h | h
    · exact .inl (h ▸ e)
    · rw [h] at e; cases e; exact .inr (Nat.le_refl _)⟩
  have := hK _ _ (h v' w' hown' hFr)
  unfold Oper.wp execOp
  simp only [ho, resolve, invoke, builtin, Sem.run_bind, Sem.run_pure, Result.andThen_ok, List.map_toArray, List.map_cons, List.map_nil, hs, hx, hrun]
  exact this

def nmB (t : Ty) : List ByteArray := (namesT t).map fun x => ⟨x.toArray⟩
/-- a cursor before a call -/
structure Pre (w : World) (b : Nat) (s : ByteArray) (l : List UInt8) (o D DP sb B : Nat) (v : Value) (ns : List ByteArray) : Prop where
  cur : CurK w b s (o : Int) (D : Int) (DP : Int) v sb
  tx : Tx s l
  ho : o ≤ l.length
  hs : (l.length : Int) ≤ 8000
  own : OwnN w B v ns
  nsl : ns.length ≤ o
  sg : Sg w sb
  sbB : sb < B
  sbb : sb ≠ b
  tab : TabK w
  maxc : MaxC w
  gb0 : 0 ≠ b
  gb1 : 1 ≠ b
  gB0 : 0 < B
  gB1 : 1 < B
  bB : b < B
  le : D ≤ DP
  dp : DP ≤ 12
  bz : B ≤ w.heap.size
theorem Pre.ne {w : World} {b : Nat} {s : ByteArray} {l : List UInt8} {o D DP sb B : Nat} {v : Value} {ns : List ByteArray} (h : Pre w b s l o D DP sb B v ns) (g : Nat) (hg : g < B) : v.ownBlock ≠ some g := fun e => by
  have := (h.own.own g e).1
  omega
theorem Pre.ne2 {w : World} {b : Nat} {s : ByteArray} {l : List UInt8} {o D DP sb B : Nat} {v : Value} {ns : List ByteArray} (h : Pre w b s l o D DP sb B v ns) (g : Nat) (hg : w.heap.size ≤ g) : v.ownBlock ≠ some g := fun e => by
  have := (h.own.own g e).2
  omega
/-- what lasts is there still -/
theorem Pre.fr {w w' : World} {b : Nat} {s : ByteArray} {l : List UInt8} {o D DP sb B o' D' DP' : Nat} {v v' : Value} {ns ns' : List ByteArray} (h : Pre w b s l o D DP sb B v ns) (hF : Fr b v w v' w')
    (hc : CurK w' b s (o' : Int) (D' : Int) (DP' : Int) v' sb) (ho : o' ≤ l.length) (hown : OwnN w' B v' ns') (hn : ns'.length ≤ o') (hle : D' ≤ DP') (hdp : DP' ≤ 12) : Pre w' b s l o' D' DP' sb B v' ns' :=
  { cur := hc, tx := h.tx, ho := ho, hs := h.hs, own := hown, nsl := hn, sg := hF.sg h.sg h.sbb (h.ne _ h.sbB), sbB := h.sbB, sbb := h.sbb,
    tab := hF.tab h.tab h.gb0 (h.ne _ h.gB0), maxc := hF.maxC h.maxc h.gb1 (h.ne _ h.gB1), gb0 := h.gb0, gb1 := h.gb1, gB0 := h.gB0, gB1 := h.gB1, bB := h.bB, le := hle, dp := hdp, bz := Nat.le_trans h.bz hF.size }
/-- the names last where their row lasts -/
theorem Pre.ownFr {w w' : World} {b : Nat} {s : ByteArray} {l : List UInt8} {o D DP sb B : Nat} {v : Value} {ns : List ByteArray} (h : Pre w b s l o D DP sb B v ns) (hO : Oth b w w') : OwnN w' B v ns :=
  h.own.keep fun k e => hO.block k (h.own.own k e).2 (fun e' => by have := (h.own.own k e).1; have := h.bB; omega)
/-- another place in the same text -/
theorem Pre.oth {w w' : World} {b : Nat} {s : ByteArray} {l : List UInt8} {o D DP sb B o' D' DP' : Nat} {v : Value} {ns : List ByteArray} (h : Pre w b s l o D DP sb B v ns) (hO : Oth b w w')
    (hc : CurK w' b s (o' : Int) (D' : Int) (DP' : Int) v sb) (h1 : o ≤ o') (ho : o' ≤ l.length) (hle : D' ≤ DP') (hdp : DP' ≤ 12) : Pre w' b s l o' D' DP' sb B v ns :=
  h.fr (Fr.oth hO v) hc ho (h.ownFr hO) (Nat.le_trans h.nsl h1) hle hdp
theorem Pre.nx {w w' : World} {b : Nat} {s : ByteArray} {l : List UInt8} {o D DP sb B : Nat} {v : Value} {ns : List ByteArray} (h : Pre w b s l o D DP sb B v ns) (hN : Nx w w') : Pre w' b s l o D DP sb B v ns :=
  h.oth (Oth.nx hN) (Blk.below h.cur hN) (Nat.le_refl _) h.ho h.le h.dp

/-- what a call leaves of the cursor -/
def Aft (b : Nat) (s : ByteArray) (o Dc D DP sb B : Nat) (v : Value) (ns : List ByteArray) (w w' : World) (P : Nat × Ty × Nat) : Prop :=
  ∃ (o' dp' : Int) (v' : Value), CurK w' b s o' (Dc : Int) dp' v' sb ∧ Fr b v w v' w' ∧
    (P.1 = 0 → o' = ((o + P.2.2 : Nat) : Int) ∧ dp' = ((max DP (D + depthT P.2.1) : Nat) : Int) ∧ OwnN w' B v' (ns ++ nmB P.2.1))
/-- the head of a type, as the code has it -/
def HeadIs (t : Ty) (K : Int) (N A C : ByteArray) : Prop := K = ((headT t).1 : Nat) ∧ Tx N (headT t).2.1 ∧ Tx A (headT t).2.2.1 ∧ Tx C (headT t).2.2.2
def NextR (b : Nat) (s : ByteArray) (o D DP sb B : Nat) (v : Value) (ns : List ByteArray) (w : World) (P : Nat × Ty × Nat) (e : Ending) (w' : World) : Prop :=
  ∃ (K : Int) (N A C : ByteArray), e = .returned (.tuple #[.agg #[.int .i64 K, .string N, .string A, .string C], .int .i64 (P.1 : Nat)]) ∧ (P.1 = 0 → HeadIs P.2.1 K N A C) ∧ Aft b s o D D DP sb B v ns w w' P
/-- the parts alone -/
def PartR (b : Nat) (s : ByteArray) (o Dc D DP sb B : Nat) (v : Value) (ns : List ByteArray) (w : World) (P : Nat × Ty × Nat) (e : Ending) (w' : World) : Prop :=
  ∃ A C : ByteArray, e = .returned (.tuple #[.agg #[.string A, .string C], .int .i64 (P.1 : Nat)]) ∧ (P.1 = 0 → Tx A (headT P.2.1).2.2.1 ∧ Tx C (headT P.2.1).2.2.2) ∧ Aft b s o Dc D DP sb B v ns w w' P
/-- the contract of next, so many deep -/
def NextC (r : Nat) : Prop := ∀ (w : World) (b : Nat) (s : ByteArray) (l : List UInt8) (o D DP sb B : Nat) (v : Value) (ns : List ByteArray), Pre w b s l o D DP sb B v ns → D + r = 12 →
  Calls Tryd.prog 23 #[.pointer (some ⟨b, 0, none⟩)] w (NextR b s o D DP sb B v ns w (parT r (l.drop o)))
end Go.Proofs.YtpaacfoiiihbeaaDoor
