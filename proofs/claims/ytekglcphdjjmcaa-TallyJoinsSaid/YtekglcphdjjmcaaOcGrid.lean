/-
  Arguments that are [][]N (N: an integer), told in this proof's words for memory.
-/
import Derived.Test.YtekglcphdjjmcaaOcOpen
import Derived.Deep.Slices
import Derived.Deep.SlicePairs
import Derived.ChangeArms
namespace Go.Proofs.Ytekglcphdjjmcaa.oc
open Go.ChangeShapes Go.WideShapes Go.ChangeAt Go.RowKit
/-- the slice A of length n shows the rows, each a slice of numbers -/
def IsGrid (k : IntKind) (m : Nat) (w : World) (A : Option Addr) (n : Nat) (rows : List (List Nat)) : Prop := rows.length = n ∧ ∀ i x, rows[i]? = some x → ∃ b o A' c', A = some ⟨b, o, none⟩ ∧ b < w.heap.size ∧ w.cell? ⟨b, o + i, none⟩ = some (.slice A' x.length c') ∧ IsNums k m w A' x.length c' x
section
variable {H : Type} {enc : TypeId × Value → H} {P : Program} {W : World}
theorem open_grid {t r e : TypeId} {k : IntKind} {m : Nat} {A : Option Addr} {n c : Nat} {d : DataW H} {p : List MemPlace} (hk : ∀ z, (Lit.int k z).wf = true → 0 ≤ z ∧ z < (m : Int)) (hr : P.underlying t = some (.slice r)) (cr : P.cellsOf r = 1) (ht : P.underlying r = some (.slice e)) (he : P.underlying e = some (.int k)) (hc : P.cellsOf e = 1)
    (h : DataW.Trod enc P W 0 (fun _ => true) true t (.slice A n c) d p) : ∃ rows, IsGrid k m W A n rows ∧ n ≤ c ∧ (d = .nil ∧ c = 0 ∨ ∃ es sp, d = .slice es sp ∧ es.length = n ∧ es.length + sp.length = c) := by
  obtain ⟨fuel, hf⟩ := h
  rcases Go.Deep.open_slice hr hf with ⟨hcs, hx⟩ | ⟨a, len, cap, mm, kk, D, Pl, hcs, _, hl, _, hm, hxx, hx⟩
  · simp only [Value.cells, List.cons.injEq, Value.slice.injEq, and_true] at hcs
    obtain ⟨rfl, rfl, rfl⟩ := hcs
    simp only [Prod.mk.injEq] at hx
    exact ⟨[], ⟨rfl, fun i x hx => by simp at hx⟩, Nat.le_refl _, .inl ⟨hx.1, rfl⟩⟩
  · simp only [Value.cells, List.cons.injEq, Value.slice.injEq, and_true] at hcs
    obtain ⟨rfl, rfl, rfl⟩ := hcs
    simp only [if_true] at hm
    simp only [Prod.mk.injEq] at hxx
    have each : ∀ i, i < n → ∃ x : List Nat, ∃ A' c', W.cell? (a.add i) = some (.slice A' x.length c') ∧ IsNums k m W A' x.length c' x := fun i hi => by
      obtain ⟨cs', h1, h2⟩ := hx i (by omega)
      rw [cr, Nat.mul_one] at h1
      obtain ⟨_, hlen, hcell⟩ := World.cells?_some h1
      have k0 := hcell 0 (by omega)
      rw [Go.Deep.add_add, Nat.add_zero] at k0
      have form : ∃ A' n' c', cs' = [.slice A' n' c'] := by
        rcases Go.Deep.open_slice ht h2 with ⟨e1, _⟩ | ⟨a', l', c', _, _, _, _, e1, _⟩
        · exact ⟨_, _, _, e1⟩
        · exact ⟨_, _, _, e1⟩
      obtain ⟨A', n', c', rfl⟩ := form
      obtain ⟨x, hxn, _⟩ := open_nums (enc := enc) (P := P) (W := W) hk ht he hc ⟨kk, h2⟩
      have e := hxn.1
      subst e
      exact ⟨x, A', c', by simpa using k0, hxn⟩
    obtain ⟨f, hfx⟩ := Go.Deep.choose_lt each
    refine ⟨(List.range n).map f, ⟨by simp, fun i x hx => ?_⟩, hl, .inr ⟨_, _, hxx.1, by simp, by simp; omega⟩⟩
    have hi : i < n := by have := (List.getElem?_eq_some_iff.1 hx).1; simpa using this
    simp [hi] at hx
    subst hx
    obtain ⟨A', c', h3, h4⟩ := hfx i hi
    obtain ⟨b, o, s⟩ := a
    have hs : s = none := by
      obtain ⟨A0, c0, g3, _⟩ := hfx 0 (by omega)
      simpa [Addr.add] using World.cell?_spot g3
    subst hs
    rw [Addr.add_lit] at h3
    exact ⟨b, o, A', c', rfl, World.block_lt_of_cell? W _ h3, h3, h4⟩
end
end Go.Proofs.Ytekglcphdjjmcaa.oc
