/-
  Arguments that are slices of bools, told in this proof's words for memory.
-/
import Derived.Test.YtjgbbjfphjhdcaaOcOpen
import Derived.Deep.Grids
namespace Go.Proofs.Ytjgbbjfphjhdcaa.oc
open Go.ChangeShapes Go.WideShapes Go.ChangeAt Go.RowKit
/-- bools as cells -/
def bls (l : List Bool) : List Value := l.map (fun b : Bool => Value.bool b)
theorem bls_at {l : List Bool} {k : Nat} {b : Bool} (h : l[k]? = some b) : (bls l)[k]? = some (.bool b) := by simp [bls, h]
/-- the slice A of length n shows the bools l -/
def IsBools (w : World) (A : Option Addr) (n c : Nat) (l : List Bool) : Prop := l.length = n ∧ n ≤ c ∧ Rd w w.heap.size A (bls l)
section
variable {H : Type} {enc : TypeId × Value → H} {P : Program} {W : World}
theorem open_blist {t e : TypeId} {A : Option Addr} {n c : Nat} {d : DataW H} {p : List MemPlace} (ht : P.underlying t = some (.slice e)) (he : P.underlying e = some .bool) (hc : P.cellsOf e = 1)
    (h : DataW.Trod enc P W 0 (fun _ => true) true t (.slice A n c) d p) : ∃ l, IsBools W A n c l ∧ (d = .nil ∧ c = 0 ∨ ∃ es sp, d = .slice es sp ∧ es.length = n ∧ es.length + sp.length = c) := by
  obtain ⟨fuel, hf⟩ := h
  rcases Go.Deep.open_bools ht he hc hf with ⟨hcs, hx⟩ | ⟨a, len, cap, B, hcs, _, hl, hm, hx, hcell⟩
  · simp only [Value.cells, List.cons.injEq, Value.slice.injEq, and_true] at hcs
    obtain ⟨rfl, rfl, rfl⟩ := hcs
    simp only [Prod.mk.injEq] at hx
    exact ⟨[], ⟨rfl, Nat.le_refl _, Rd.nil_⟩, .inl ⟨hx.1, rfl⟩⟩
  · simp only [Value.cells, List.cons.injEq, Value.slice.injEq, and_true] at hcs
    obtain ⟨rfl, rfl, rfl⟩ := hcs
    simp only [Prod.mk.injEq] at hx
    refine ⟨(List.range n).map B, ⟨by simp, hl, rd_of_cells fun j v hv => ?_⟩, .inr ⟨_, _, hx.1, by simp, by simp; omega⟩⟩
    simp only [bls, List.getElem?_map, Option.map_eq_some_iff] at hv
    obtain ⟨b, ⟨i, hi, rfl⟩, rfl⟩ := hv
    have hi2 := List.getElem?_eq_some_iff.1 hi
    obtain ⟨h1, h2⟩ := hi2
    simp at h1 h2
    subst h2
    exact hcell j (by omega)
end
end Go.Proofs.Ytjgbbjfphjhdcaa.oc
