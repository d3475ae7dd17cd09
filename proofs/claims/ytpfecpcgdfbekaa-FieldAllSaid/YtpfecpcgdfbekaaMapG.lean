/- Maps that lie, of any keys and values: what is read, what is put. Plain lemmas. -/
import Derived.Test.YtpfecpcgdfbekaaProg
import Derived.Test.YtpfecpcgdfbekaaBlk
import Derived.DeepKeys4
import Derived.Maps.Keyed
import Derived.Maps.Own
set_option linter.unusedVariables false
set_option linter.unusedSimpArgs false
namespace Go.Proofs.Ytpfecpcgdfbekaa
open Go.RowKit

section
variable {κ ν : Type} [DecidableEq κ]
def getG : List (κ × ν) → κ → Option ν
  | [], _ => none
  | x :: r, k => if x.1 = k then some x.2 else getG r k
def putG : List (κ × ν) → κ → ν → List (κ × ν)
  | [], k, v => [(k, v)]
  | x :: r, k, v => if x.1 = k then (k, v) :: r else x :: putG r k v
theorem getG_none : ∀ {m : List (κ × ν)} {k : κ}, (∀ x ∈ m, x.1 ≠ k) → getG m k = none
  | [], _, _ => rfl
  | y :: r, k, h => by
    unfold getG
    rw [if_neg (h y (by simp)), getG_none fun x hx => h x (by simp [hx])]
theorem getG_at : ∀ {m : List (κ × ν)} {j : Nat} {x : κ × ν}, (m.map (·.1)).Nodup → m[j]? = some x → getG m x.1 = some x.2
  | [], _, _, _, h => by simp at h
  | y :: r, 0, x, _, h => by
    simp at h; subst h
    simp [getG]
  | y :: r, j + 1, x, hn, h => by
    simp only [List.map_cons, List.nodup_cons, List.getElem?_cons_succ] at hn h
    unfold getG
    rw [if_neg fun e => hn.1 (by rw [e]; exact List.mem_map.2 ⟨x, List.mem_of_getElem? h, rfl⟩)]
    exact getG_at hn.2 h
theorem putG_none : ∀ {m : List (κ × ν)} {k : κ} (v : ν), (∀ x ∈ m, x.1 ≠ k) → putG m k v = m ++ [(k, v)]
  | [], _, _, _ => rfl
  | y :: r, k, v, h => by
    unfold putG
    rw [if_neg (h y (by simp)), putG_none v fun x hx => h x (by simp [hx])]; rfl
theorem putG_at : ∀ {m : List (κ × ν)} {j : Nat} {x : κ × ν} (v : ν), (m.map (·.1)).Nodup → m[j]? = some x → putG m x.1 v = m.set j (x.1, v)
  | [], _, _, _, _, h => by simp at h
  | y :: r, 0, x, v, _, h => by
    simp at h; subst h
    simp [putG]
  | y :: r, j + 1, x, v, hn, h => by
    simp only [List.map_cons, List.nodup_cons, List.getElem?_cons_succ] at hn h
    unfold putG
    rw [if_neg fun e => hn.1 (by rw [e]; exact List.mem_map.2 ⟨x, List.mem_of_getElem? h, rfl⟩), putG_at v hn.2 h]; rfl
theorem putG_mem : ∀ (m : List (κ × ν)) (k : κ) (v : ν), ∀ x ∈ putG m k v, x = (k, v) ∨ x ∈ m
  | [], k, v, x, h => by simp [putG] at h; exact .inl h
  | y :: r, k, v, x, h => by
    unfold putG at h
    split at h
    · rcases List.mem_cons.1 h with rfl | h
      · exact .inl rfl
      · exact .inr (by simp [h])
    · rcases List.mem_cons.1 h with rfl | h
      · exact .inr (by simp)
      · rcases putG_mem r k v x h with h | h
        · exact .inl h
        · exact .inr (by simp [h])
theorem putG_keys : ∀ (m : List (κ × ν)) (k : κ) (v : ν), ∀ x ∈ putG m k v, x.1 = k ∨ ∃ y ∈ m, y.1 = x.1 := fun m k v x h => by
  rcases putG_mem m k v x h with rfl | h
  · exact .inl rfl
  · exact .inr ⟨x, h, rfl⟩
theorem putG_nodup : ∀ {m : List (κ × ν)} (k : κ) (v : ν), (m.map (·.1)).Nodup → ((putG m k v).map (·.1)).Nodup
  | [], k, v, _ => by simp [putG]
  | y :: r, k, v, h => by
    simp only [List.map_cons, List.nodup_cons] at h
    unfold putG
    split
    · rename_i e
      subst e
      simpa using h
    · rename_i e
      simp only [List.map_cons, List.nodup_cons]
      refine ⟨fun hm => ?_, putG_nodup k v h.2⟩
      obtain ⟨x, hx, hxe⟩ := List.mem_map.1 hm
      rcases putG_keys r k v x hx with h1 | ⟨z, hz, h1⟩
      · exact e (hxe ▸ h1)
      · exact h.1 (List.mem_map.2 ⟨z, hz, h1.trans hxe⟩)

end
section
variable {κ ν : Type}
/-- what is known of a map's type -/
structure MapL (MT KT VT : TypeId) (kv : κ → Value) (vv : ν → Value) (ok : κ → Prop) (z : ν) : Prop where
  und : Try.prog.underlying MT = some (.map KT VT)
  law : Maps.Keyed Try.prog KT
  key : ∀ k, ok k → ∃ l, keyOf Try.prog KT (kv k) = some l
  inj : ∀ a b, kv a = kv b → a = b
  zero : ∀ w, (zeroValue VT).run Try.prog w = .ok (vv z) w
/-- a map that lies there -/
def MpG (kv : κ → Value) (vv : ν → Value) (ok : κ → Prop) (w : World) (g : Nat) (m : List (κ × ν)) : Prop :=
  ∃ es c, w.heap[g]? = some (.map es c) ∧ es.toList.map (fun e => (e.key, e.val)) = m.map (fun x => (kv x.1, vv x.2)) ∧ (m.map (·.1)).Nodup ∧ ∀ x ∈ m, ok x.1
theorem MpG.keep {kv : κ → Value} {vv : ν → Value} {ok : κ → Prop} {w w' : World} {g : Nat} {m : List (κ × ν)} (h : MpG kv vv ok w g m) (hk : w'.heap[g]? = w.heap[g]?) : MpG kv vv ok w' g m := by
  obtain ⟨es, c, h1, h2⟩ := h
  exact ⟨es, c, hk.trans h1, h2⟩
theorem MpG.lt {kv : κ → Value} {vv : ν → Value} {ok : κ → Prop} {w : World} {g : Nat} {m : List (κ × ν)} (h : MpG kv vv ok w g m) : g < w.heap.size := by
  obtain ⟨es, c, h1, -⟩ := h
  exact (Array.getElem?_eq_some_iff.1 h1).1
theorem MpG.nx {kv : κ → Value} {vv : ν → Value} {ok : κ → Prop} {w w' : World} {g : Nat} {m : List (κ × ν)} (h : MpG kv vv ok w g m) (hn : Nx w w') : MpG kv vv ok w' g m := h.keep (hn.block g h.lt)
theorem MpG.nil_ (kv : κ → Value) (vv : ν → Value) (ok : κ → Prop) (w : World) : MpG kv vv ok (w.alloc (.map #[] 0)) w.heap.size ([] : List (κ × ν)) := ⟨#[], 0, heap_alloc_new w _, rfl, List.nodup_nil, fun _ h => by cases h⟩
variable {MT KT VT : TypeId} {kv : κ → Value} {vv : ν → Value} {ok : κ → Prop} {z : ν}
theorem MapL.found (L : MapL MT KT VT kv vv ok z) (w : World) {es : Array MapEntry} {m : List (κ × ν)} (h : es.toList.map (fun e => (e.key, e.val)) = m.map (fun x => (kv x.1, vv x.2))) (ho : ∀ x ∈ m, ok x.1) (k : κ) (hk : ok k) :
    ((Instr.findKey KT (kv k) es.toList).run Try.prog w = .ok none w ∧ ∀ x ∈ m, x.1 ≠ k) ∨
    ∃ j e v, (Instr.findKey KT (kv k) es.toList).run Try.prog w = .ok (some (j, vv v)) w ∧ es.toList[j]? = some e ∧ e.key = kv k ∧ m[j]? = some (k, v) := by
  obtain ⟨kl, hkl⟩ := L.key k hk
  have hget : ∀ j : Nat, (es.toList[j]?).map (fun e : MapEntry => (e.key, e.val)) = (m[j]?).map (fun x : κ × ν => (kv x.1, vv x.2)) := fun j => by
    have := congrArg (fun l : List (Value × Value) => l[j]?) h
    simpa using this
  have hkeys : ∀ e ∈ es.toList, ∃ l, keyOf Try.prog KT e.key = some l := fun e he => by
    obtain ⟨j, hj⟩ := List.getElem?_of_mem he
    have := hget j
    rw [hj] at this
    obtain ⟨x, hx, e2⟩ := Option.map_eq_some_iff.1 this.symm
    obtain ⟨l, hl⟩ := L.key x.1 (ho x (List.mem_of_getElem? hx))
    exact ⟨l, by rw [← (Prod.mk.inj e2).1]; exact hl⟩
  rcases L.law.find w hkl es.toList hkeys with ⟨h1, h2⟩ | ⟨j, e, h1, h2, h3⟩
  · refine .inl ⟨h1, fun x hx e => ?_⟩
    obtain ⟨j, hj⟩ := List.getElem?_of_mem hx
    have := hget j
    rw [hj] at this
    obtain ⟨y, hy, e2⟩ := Option.map_eq_some_iff.1 this
    exact h2 y (List.mem_of_getElem? hy) (by rw [(Prod.mk.inj e2).1, e])
  · have := hget j
    rw [h2] at this
    obtain ⟨⟨k', v⟩, hx, e2⟩ := Option.map_eq_some_iff.1 this.symm
    obtain ⟨e3, e4⟩ := Prod.mk.inj e2
    obtain rfl : k' = k := L.inj _ _ (e3.trans h3)
    exact .inr ⟨j, e, v, by rw [h1, ← e4], h2, h3, hx⟩
end
section
variable {κ ν : Type} [DecidableEq κ] {MT KT VT : TypeId} {kv : κ → Value} {vv : ν → Value} {ok : κ → Prop} {z : ν}
theorem MapL.look (L : MapL MT KT VT kv vv ok z) {w : World} {g : Nat} {m : List (κ × ν)} (h : MpG kv vv ok w g m) (k : κ) (hk : ok k) :
    (Instr.lookup MT (.map (some g)) (kv k) false).run Try.prog w = .ok (vv ((getG m k).getD z)) w ∧
    (Instr.lookup MT (.map (some g)) (kv k) true).run Try.prog w = .ok (.tuple #[vv ((getG m k).getD z), .bool (getG m k).isSome]) w := by
  obtain ⟨es, c, hg, h2, hd, ho⟩ := h
  obtain ⟨kl, hkl⟩ := L.key k hk
  rcases L.found w h2 ho k hk with ⟨h1, h3⟩ | ⟨j, e, v, h1, h3, h4, h5⟩
  · rw [getG_none h3]
    constructor <;> simp [Instr.lookup, run_underlying L.und, MapKept.run_getObj_map hg, L.law.check w es.isEmpty hkl, h1, L.zero, Result.andThen]
  · rw [show getG m k = some v from getG_at (x := (k, v)) hd h5]
    constructor <;> simp [Instr.lookup, run_underlying L.und, MapKept.run_getObj_map hg, L.law.check w es.isEmpty hkl, h1, Result.andThen]
theorem MapL.put (L : MapL MT KT VT kv vv ok z) {w : World} {g : Nat} {m : List (κ × ν)} (h : MpG kv vv ok w g m) (k : κ) (v : ν) (hk : ok k) :
    ∃ o, (Instr.mapUpdate MT (.map (some g)) (kv k) (vv v)).run Try.prog w = .ok () (ChangeMaps.setBlock w g o) ∧ MpG kv vv ok (ChangeMaps.setBlock w g o) g (putG m k v) := by
  obtain ⟨es, c, hg, h2, hd, ho⟩ := h
  obtain ⟨kl, hkl⟩ := L.key k hk
  have hlt := (Array.getElem?_eq_some_iff.1 hg).1
  have hnew : ∀ o, (ChangeMaps.setBlock w g o).heap[g]? = some o := fun o => by simp [ChangeMaps.setBlock, hlt]
  have hok : ∀ x ∈ putG m k v, ok x.1 := fun x hx => by
    rcases putG_mem m k v x hx with rfl | hx
    · exact hk
    · exact ho x hx
  rcases L.found w h2 ho k hk with ⟨h1, h3⟩ | ⟨j, e, u, h1, h3, h4, h5⟩
  · refine ⟨.map (es.push ⟨kv k, vv v, c⟩) (c + 1), ?_, es.push ⟨kv k, vv v, c⟩, c + 1, hnew _, ?_, putG_nodup k v hd, hok⟩
    · simp [Instr.mapUpdate, run_underlying L.und, MapKept.run_getObj_map hg, L.law.check w false hkl, h1, MapKept.run_setObj_map _ hg, Result.andThen, ChangeMaps.setBlock]
    · rw [putG_none v h3, Array.toList_push, List.map_append, List.map_append, h2]; rfl
  · have hj : es[j]? = some e := by simpa using h3
    have hlist : (es.modify j (fun e' => { e' with key := kv k, val := vv v })).toList = es.toList.set j { e with key := kv k, val := vv v } := by rw [Array.toList_modify, ChangeMaps.modify_eq_set _ _ _ _ h3]
    refine ⟨.map (es.modify j (fun e' => { e' with key := kv k, val := vv v })) c, ?_, es.modify j (fun e' => { e' with key := kv k, val := vv v }), c, hnew _, ?_, putG_nodup k v hd, hok⟩
    · simp [Instr.mapUpdate, run_underlying L.und, MapKept.run_getObj_map hg, L.law.check w false hkl, h1, hj, h4, L.law.stays w hkl, MapKept.run_setObj_map _ hg, Result.andThen, ChangeMaps.setBlock]
    · rw [hlist, show putG m k v = m.set j (k, v) from putG_at (x := (k, u)) v hd h5, List.map_set, List.map_set, h2]
end
/-- a map's block, put anew -/
theorem setBlock_keep {w : World} {g j : Nat} {o : Obj} (hj : j ≠ g) : (ChangeMaps.setBlock w g o).heap[j]? = w.heap[j]? := by
  simp only [ChangeMaps.setBlock]; rw [Array.getElem?_setIfInBounds_ne (Ne.symm hj)]
theorem setBlock_oth (w : World) (g : Nat) (o : Obj) (h0 : (ChangeMaps.setBlock w g o).os = w.os) (h1 : (ChangeMaps.setBlock w g o).tape = w.tape) (h2 : (ChangeMaps.setBlock w g o).output = w.output) {W : World} (hn : Nx W w) (hg : W.heap.size ≤ g) : Nx W (ChangeMaps.setBlock w g o) :=
  ⟨h0.trans hn.os, h1.trans hn.tape, h2.trans hn.output, by simp only [ChangeMaps.setBlock, Array.size_setIfInBounds]; exact hn.size, fun j hj => (setBlock_keep (by omega)).trans (hn.block j hj)⟩
end Go.Proofs.Ytpfecpcgdfbekaa
