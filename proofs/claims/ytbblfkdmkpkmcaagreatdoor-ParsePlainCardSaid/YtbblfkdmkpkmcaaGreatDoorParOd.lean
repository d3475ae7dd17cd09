/- A file of one definition, as it lies. -/
import Derived.Test.YtbblfkdmkpkmcaaGreatDoorG28
set_option linter.unusedVariables false
set_option linter.unusedSimpArgs false
namespace Go.Proofs.YtbblfkdmkpkmcaaGreatDoor
open Go.RowKit
theorem one_def {w:World} {P:Nat→Prop} {dA:Option Addr} {dc:Nat} {d:Dfn}
  (h:LD w P (.slice dA 1 dc) [d]):∃ gd,dA=some ⟨gd,0,none⟩∧gd<w.heap.size∧w.cell? ⟨gd,1,none⟩=some (.string ⟨d.nm.toArray⟩)∧w.cell? ⟨gd,2,none⟩=some (.string ⟨d.ty.toArray⟩):=by
 obtain ⟨A,c,xs,hA,hx,-,-,hrd,hall⟩:=h.sl dfnA_size
 simp only [Value.slice.injEq] at hA
 obtain ⟨rfl,-,rfl⟩:=hA
 match xs,hx,hall with
 | [x],_,hall =>
  obtain ⟨hd,-⟩:=hall
  obtain ⟨gd,rfl,hgd,hcd⟩:=hrd (by simp)
  obtain ⟨-,h1,h2,-⟩:=hd
  have e1:=hcd 0 (by simp) 1 (by decide)
  have e2:=hcd 0 (by simp) 2 (by decide)
  simp [dfnA] at e1 e2
  refine ⟨gd,rfl,hgd,?_,?_⟩
  ·rw [e1,h1];rfl
  ·rw [e2,h2];rfl
theorem txApp {a b:ByteArray} {la lb:List UInt8} (h:Tx a la) (g:Tx b lb):Tx (a++b) (la++lb):=by
 unfold Tx at *
 rw [← h,← g]
 simp [ByteArray.data_append]
end Go.Proofs.YtbblfkdmkpkmcaaGreatDoor
