/-
  Arguments that are slices of slices of structs of an int, two uint64 and a uint32, told in this proof's words for memory.
-/
import Derived.Test.YtakpfkfhbeobeaaOcOpen
import Derived.Deep.Slices
import Derived.Deep.SlicePairs
import Derived.ChangeArms
namespace Go.Proofs.Ytakpfkfhbeobeaa.oc
open Go.ChangeShapes Go.WideShapes Go.ChangeAt Go.RowKit
abbrev Quad := Int × Nat × Nat × Nat
def Quad.cells (d : Quad) : List Value := [.int .i64 d.1, .int .u64 (d.2.1 : Int), .int .u64 (d.2.2.1 : Int), .int .u32 (d.2.2.2 : Int)]
def Quad.ok (d : Quad) : Prop := -9223372036854775808 ≤ d.1 ∧ d.1 < 9223372036854775808 ∧ d.2.1 < 18446744073709551616 ∧ d.2.2.1 < 18446744073709551616 ∧ d.2.2.2 < 4294967296
/-- the slice A shows these structs -/
def IsQuads (w : World) (A : Option Addr) (ds : List Quad) : Prop := ∀ i d, ds[i]? = some d → d.ok ∧ ∃ b o, A = some ⟨b, o, none⟩ ∧ b < w.heap.size ∧ ∀ j u, d.cells[j]? = some u → w.cell? ⟨b, o + i * 4 + j, none⟩ = some u
/-- the slice A shows these slices of structs -/
def IsRows (w : World) (A : Option Addr) (xs : List (List Quad)) : Prop := ∀ k ds, xs[k]? = some ds → ∃ b o A' c', A = some ⟨b, o, none⟩ ∧ b < w.heap.size ∧ w.cell? ⟨b, o + k, none⟩ = some (.slice A' ds.length c') ∧ IsQuads w A' ds
theorem wf_u32 (z : Int) (h : (Lit.int .u32 z).wf = true) : 0 ≤ z ∧ z < ((4294967296 : Nat) : Int) := by
  have : 0 ≤ z ∧ z ≤ 4294967295 := by simpa [Lit.wf, IntKind.min, IntKind.max, IntKind.signed, IntKind.bits] using h
  omega
section
variable {H : Type} {enc : TypeId × Value → H} {P : Program} {w : World}
theorem addr_zero {a : Addr} {v : Value} (h : w.cell? (a.add 0) = some v) : ∃ b o, a = ⟨b, o, none⟩ := by
  obtain ⟨b, o, s⟩ := a
  have hs : s = none := by simpa [Addr.add] using World.cell?_spot h
  subst hs
  exact ⟨b, o, rfl⟩
theorem addr_lit {b o i : Nat} {v : Value} (h : w.cell? ((⟨b, o, none⟩ : Addr).add i) = some v) : b < w.heap.size ∧ w.cell? ⟨b, o + i, none⟩ = some v := by
  rw [Addr.add_lit] at h
  exact ⟨World.block_lt_of_cell? w _ h, h⟩
theorem open_quads {t e : TypeId} {f0 f1 f2 f3 : Field} {fuel : Nat} {cs : List Value} {x : DataW H × List MemPlace} (ht : P.underlying t = some (.slice e)) (he : P.underlying e = some (.struct #[f0, f1, f2, f3]))
    (ce : P.cellsOf e = 4) (o0 : f0.offset = 0) (o1 : f1.offset = 1) (o2 : f2.offset = 2) (o3 : f3.offset = 3) (c0 : P.cellsOf f0.type = 1) (c1 : P.cellsOf f1.type = 1) (c2 : P.cellsOf f2.type = 1) (c3 : P.cellsOf f3.type = 1)
    (t0 : P.underlying f0.type = some (.int .i64)) (t1 : P.underlying f1.type = some (.int .u64)) (t2 : P.underlying f2.type = some (.int .u64)) (t3 : P.underlying f3.type = some (.int .u32))
    (h : DataW.trod enc P w 0 (fun _ => true) true fuel t cs = some x) : ∃ A ds c, cs = [.slice A (List.length ds) c] ∧ IsQuads w A ds := by
  rcases Go.Deep.open_slice ht h with ⟨rfl, _⟩ | ⟨a, len, cap, m, n, D, Pl, rfl, _, hl, _, hm, _, hx⟩
  · exact ⟨none, [], 0, rfl, fun i d hd => by simp at hd⟩
  · simp only [if_true] at hm
    rcases Nat.eq_zero_or_pos len with hz | hz
    · subst hz
      exact ⟨some a, [], cap, rfl, fun i d hd => by simp at hd⟩
    obtain ⟨b0', o0', rfl⟩ := (by
      obtain ⟨cs', h1, _⟩ := hx 0 (by omega)
      rw [ce] at h1
      obtain ⟨_, hlen, hcell⟩ := World.cells?_some h1
      have k0 := hcell 0 (by omega)
      rw [Go.Deep.add_add, List.getElem?_eq_getElem (by omega)] at k0
      simp only [Nat.zero_mul, Nat.zero_add] at k0
      exact addr_zero k0 : ∃ b o, a = ⟨b, o, none⟩)
    have each : ∀ i, i < len → ∃ d : Quad, d.ok ∧ b0' < w.heap.size ∧ ∀ j u, d.cells[j]? = some u → w.cell? ⟨b0', o0' + i * 4 + j, none⟩ = some u := fun i hi => by
      obtain ⟨cs', h1, h2⟩ := hx i (by omega)
      rw [ce] at h1
      obtain ⟨_, hlen, hcell⟩ := World.cells?_some h1
      obtain ⟨xs, k, hk, hxy, _, hxl, hf⟩ := DataW.trod_struct he h2
      match xs, hxl, cs', hlen with
      | [y0, y1, y2, y3], _, [v0, v1, v2, v3], _ =>
        have g0 := hf 0 f0 rfl
        have g1 := hf 1 f1 rfl
        have g2 := hf 2 f2 rfl
        have g3 := hf 3 f3 rfl
        simp [o0, o1, o2, o3, c0, c1, c2, c3] at g0 g1 g2 g3
        obtain ⟨d0, e0, _, u0⟩ := DataW.trod_int t0 g0
        obtain ⟨d1, e1, _, u1⟩ := DataW.trod_int t1 g1
        obtain ⟨d2, e2, _, u2⟩ := DataW.trod_int t2 g2
        obtain ⟨d3, e3, _, u3⟩ := DataW.trod_int t3 g3
        obtain rfl : v0 = .int .i64 d0 := by simpa using e0
        obtain rfl : v1 = .int .u64 d1 := by simpa using e1
        obtain rfl : v2 = .int .u64 d2 := by simpa using e2
        obtain rfl : v3 = .int .u32 d3 := by simpa using e3
        have b0 := wf_i64 d0 u0
        have b1 := wf_u64 d1 u1
        have b2 := wf_u64 d2 u2
        have b3 := wf_u32 d3 u3
        have k0 := hcell 0 (by omega)
        have k1 := hcell 1 (by omega)
        have k2 := hcell 2 (by omega)
        have k3 := hcell 3 (by omega)
        rw [Go.Deep.add_add] at k0 k1 k2 k3
        obtain ⟨hb, j0⟩ := addr_lit k0
        rw [Addr.add_lit] at k1 k2 k3
        refine ⟨(d0, d1.toNat, d2.toNat, d3.toNat), ⟨b0.1, by show d0 < _; omega, by show d1.toNat < _; omega, by show d2.toNat < _; omega, by show d3.toNat < _; omega⟩, hb, fun j u hu => ?_⟩
        have q1 : ((d1.toNat : Nat) : Int) = d1 := Int.toNat_of_nonneg b1.1
        have q2 : ((d2.toNat : Nat) : Int) = d2 := Int.toNat_of_nonneg b2.1
        have q3 : ((d3.toNat : Nat) : Int) = d3 := Int.toNat_of_nonneg b3.1
        simp only [Quad.cells, q1, q2, q3] at hu
        match j, hu with
        | 0, hu => simp at hu; subst hu; simpa [Nat.add_assoc] using j0
        | 1, hu => simp at hu; subst hu; simpa [Nat.add_assoc] using k1
        | 2, hu => simp at hu; subst hu; simpa [Nat.add_assoc] using k2
        | 3, hu => simp at hu; subst hu; simpa [Nat.add_assoc] using k3
        | j + 4, hu => simp at hu
    obtain ⟨f, hfx⟩ := Go.Deep.choose_lt each
    refine ⟨_, (List.range len).map f, cap, by simp; rfl, fun i d hd => ?_⟩
    have hi : i < len := by have := (List.getElem?_eq_some_iff.1 hd).1; simpa using this
    simp [hi] at hd
    subst hd
    obtain ⟨h1, h2, h3⟩ := hfx i hi
    exact ⟨h1, b0', o0', rfl, h2, h3⟩
theorem open_rows {t r e : TypeId} {f0 f1 f2 f3 : Field} {A : Option Addr} {n c : Nat} {d : DataW H} {p : List MemPlace} {fuel : Nat} (hr : P.underlying t = some (.slice r)) (cr : P.cellsOf r = 1) (ht : P.underlying r = some (.slice e)) (he : P.underlying e = some (.struct #[f0, f1, f2, f3]))
    (ce : P.cellsOf e = 4) (o0 : f0.offset = 0) (o1 : f1.offset = 1) (o2 : f2.offset = 2) (o3 : f3.offset = 3) (c0 : P.cellsOf f0.type = 1) (c1 : P.cellsOf f1.type = 1) (c2 : P.cellsOf f2.type = 1) (c3 : P.cellsOf f3.type = 1)
    (t0 : P.underlying f0.type = some (.int .i64)) (t1 : P.underlying f1.type = some (.int .u64)) (t2 : P.underlying f2.type = some (.int .u64)) (t3 : P.underlying f3.type = some (.int .u32))
    (h : DataW.trod enc P w 0 (fun _ => true) true fuel t [.slice A n c] = some (d, p)) : ∃ xs, List.length xs = n ∧ IsRows w A xs := by
  rcases Go.Deep.open_slice hr h with ⟨hcs, _⟩ | ⟨a, len, cap, m, k, D, Pl, hcs, _, hl, _, hm, _, hx⟩
  · simp only [List.cons.injEq, Value.slice.injEq, and_true] at hcs
    obtain ⟨rfl, rfl, rfl⟩ := hcs
    exact ⟨[], rfl, fun i ds hd => by simp at hd⟩
  · simp only [List.cons.injEq, Value.slice.injEq, and_true] at hcs
    obtain ⟨rfl, rfl, rfl⟩ := hcs
    simp only [if_true] at hm
    rcases Nat.eq_zero_or_pos n with hz | hz
    · subst hz
      exact ⟨[], rfl, fun i ds hd => by simp at hd⟩
    obtain ⟨b0', o0', rfl⟩ := (by
      obtain ⟨cs', h1, _⟩ := hx 0 (by omega)
      rw [cr] at h1
      obtain ⟨_, hlen, hcell⟩ := World.cells?_some h1
      have k0 := hcell 0 (by omega)
      rw [Go.Deep.add_add, List.getElem?_eq_getElem (by omega)] at k0
      simp only [Nat.zero_mul, Nat.zero_add] at k0
      exact addr_zero k0 : ∃ b o, a = ⟨b, o, none⟩)
    have each : ∀ i, i < n → ∃ ds : List Quad, ∃ A' c', b0' < w.heap.size ∧ w.cell? ⟨b0', o0' + i, none⟩ = some (.slice A' ds.length c') ∧ IsQuads w A' ds := fun i hi => by
      obtain ⟨cs', h1, h2⟩ := hx i (by omega)
      rw [cr] at h1
      obtain ⟨_, hlen, hcell⟩ := World.cells?_some h1
      obtain ⟨A', ds, c', rfl, hq⟩ := open_quads ht he ce o0 o1 o2 o3 c0 c1 c2 c3 t0 t1 t2 t3 h2
      have k0 := hcell 0 (by omega)
      rw [Go.Deep.add_add] at k0
      obtain ⟨hb, j0⟩ := addr_lit k0
      exact ⟨ds, A', c', hb, by simpa using j0, hq⟩
    obtain ⟨f, hfx⟩ := Go.Deep.choose_lt each
    refine ⟨(List.range n).map f, by simp, fun i ds hd => ?_⟩
    have hi : i < n := by have := (List.getElem?_eq_some_iff.1 hd).1; simpa using this
    simp [hi] at hd
    subst hd
    obtain ⟨A', c', h2, h3, h4⟩ := hfx i hi
    exact ⟨b0', o0', A', c', rfl, h2, h3, h4⟩
end
end Go.Proofs.Ytakpfkfhbeobeaa.oc
