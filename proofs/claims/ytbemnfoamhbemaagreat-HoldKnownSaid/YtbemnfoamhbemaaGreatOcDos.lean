/-
  Arguments that are slices of structs of an int and a uint64, told in this proof's words for memory.
-/
import Derived.Test.YtbemnfoamhbemaaGreatOcOpen
import Derived.Deep.SlicePairs
import Derived.ChangeArms
namespace Go.Proofs.YtbemnfoamhbemaaGreat.oc
open Go.ChangeShapes Go.WideShapes Go.ChangeAt Go.RowKit
/-- pairs as cells -/
def dos : List (Int × Nat) → List Value
  | [] => []
  | x :: r => .int .i64 x.1 :: .int .u64 (x.2 : Int) :: dos r
theorem dos_at : ∀ (l : List (Int × Nat)) (i : Nat) (x : Int × Nat), l[i]? = some x → (dos l)[i * 2]? = some (.int .i64 x.1) ∧ (dos l)[i * 2 + 1]? = some (.int .u64 (x.2 : Int))
  | a :: l, 0, x, h => by simp at h; subst h; exact ⟨rfl, rfl⟩
  | a :: l, i + 1, x, h => by
    have := dos_at l i x (by simpa using h)
    rw [show (i + 1) * 2 = i * 2 + 1 + 1 from by omega, show i * 2 + 1 + 1 + 1 = (i * 2 + 1) + 1 + 1 from rfl]
    simpa [dos] using this
  | [], i, x, h => by simp at h
theorem dos_only : ∀ (l : List (Int × Nat)) (j : Nat) (v : Value), (dos l)[j]? = some v → ∃ i x, l[i]? = some x ∧ ((j = i * 2 ∧ v = .int .i64 x.1) ∨ (j = i * 2 + 1 ∧ v = .int .u64 (x.2 : Int)))
  | a :: l, 0, v, h => ⟨0, a, rfl, .inl ⟨rfl, by simpa [dos] using h.symm⟩⟩
  | a :: l, 1, v, h => ⟨0, a, rfl, .inr ⟨rfl, by simpa [dos] using h.symm⟩⟩
  | a :: l, j + 2, v, h => by
    obtain ⟨i, x, h1, h2⟩ := dos_only l j v (by simpa [dos] using h)
    exact ⟨i + 1, x, by simpa using h1, h2.imp (fun q => ⟨by omega, q.2⟩) (fun q => ⟨by omega, q.2⟩)⟩
  | [], j, v, h => by simp [dos] at h
/-- the slice A of length n shows the pairs xs -/
def IsDos (w : World) (A : Option Addr) (n : Nat) (xs : List (Int × Nat)) : Prop :=
  xs.length = n ∧ (∀ x ∈ xs, -9223372036854775808 ≤ x.1 ∧ x.1 ≤ 9223372036854775807 ∧ x.2 < 18446744073709551616) ∧ Rd w w.heap.size A (dos xs)
section
variable {H : Type} {enc : TypeId × Value → H} {P : Program} {W : World}
theorem open_dos {t e : TypeId} {f0 f1 : Field} {A : Option Addr} {n c : Nat} {d : DataW H} {p : List MemPlace} (ht : P.underlying t = some (.slice e)) (he : P.underlying e = some (.struct #[f0, f1]))
    (ce : P.cellsOf e = 2) (o0 : f0.offset = 0) (o1 : f1.offset = 1) (c0 : P.cellsOf f0.type = 1) (c1 : P.cellsOf f1.type = 1) (t0 : P.underlying f0.type = some (.int .i64)) (t1 : P.underlying f1.type = some (.int .u64))
    (h : DataW.Trod enc P W 0 (fun _ => true) true t (.slice A n c) d p) : ∃ xs, IsDos W A n xs ∧ n ≤ c ∧ (d = .nil ∧ c = 0 ∨ ∃ es sp, d = .slice es sp ∧ es.length = n ∧ es.length + sp.length = c) := by
  obtain ⟨fuel, hf⟩ := h
  rcases Go.Deep.open_slice_pairs ht he ce o0 o1 c0 c1 hf with ⟨hcs, hx⟩ | ⟨a, len, cap, m, k, V0, V1, D0, D1, P0, P1, hcs, _, hl, _, hm, hxx, hx⟩
  · simp only [Value.cells, List.cons.injEq, Value.slice.injEq, and_true] at hcs
    obtain ⟨rfl, rfl, rfl⟩ := hcs
    simp only [Prod.mk.injEq] at hx
    exact ⟨[], ⟨rfl, (fun x hx => by cases hx), Rd.nil_⟩, Nat.le_refl _, .inl ⟨hx.1, rfl⟩⟩
  · simp only [Value.cells, List.cons.injEq, Value.slice.injEq, and_true] at hcs
    obtain ⟨rfl, rfl, rfl⟩ := hcs
    simp only [if_true] at hm
    have each : ∀ i, i < n → ∃ x : Int × Nat, (-9223372036854775808 ≤ x.1 ∧ x.1 ≤ 9223372036854775807 ∧ x.2 < 18446744073709551616) ∧ W.cell? (a.add (i * 2)) = some (.int .i64 x.1) ∧ W.cell? (a.add (i * 2 + 1)) = some (.int .u64 (x.2 : Int)) := fun i hi => by
      obtain ⟨h0, h1, g0, g1⟩ := hx i (by omega)
      obtain ⟨d0, e0, _, u0⟩ := DataW.trod_int t0 g0
      obtain ⟨d1, e1, _, u1⟩ := DataW.trod_int t1 g1
      have e0' : V0 i = .int .i64 d0 := by simpa using e0
      have e1' : V1 i = .int .u64 d1 := by simpa using e1
      have b0 := wf_i64 d0 u0
      have b1 := wf_u64 d1 u1
      refine ⟨(d0, d1.toNat), ⟨b0.1, b0.2, by show d1.toNat < _; omega⟩, by rw [h0, e0'], ?_⟩
      rw [h1, e1']
      show some (Value.int .u64 d1) = some (.int .u64 ((d1.toNat : Nat) : Int))
      rw [Int.toNat_of_nonneg b1.1]
    obtain ⟨f, hfx⟩ := Go.Deep.choose_lt each
    simp only [Prod.mk.injEq] at hxx
    refine ⟨(List.range n).map f, ⟨by simp, fun x hx => ?_, rd_of_cells fun j v hv => ?_⟩, hl, .inr ⟨_, _, hxx.1, by simp, by simp; omega⟩⟩
    · simp only [List.mem_map, List.mem_range] at hx
      obtain ⟨i, hi, rfl⟩ := hx
      exact (hfx i hi).1
    · obtain ⟨i, x, h1, h2⟩ := dos_only _ j v hv
      have hi : i < n := by have := (List.getElem?_eq_some_iff.1 h1).1; simpa using this
      simp [hi] at h1
      subst h1
      rcases h2 with ⟨rfl, rfl⟩ | ⟨rfl, rfl⟩
      · exact (hfx i hi).2.1
      · exact (hfx i hi).2.2
end
end Go.Proofs.YtbemnfoamhbemaaGreat.oc
