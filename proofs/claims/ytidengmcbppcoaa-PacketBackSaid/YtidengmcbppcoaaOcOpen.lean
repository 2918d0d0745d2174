/-
  How arguments that came in (slices of unsigned numbers, slices of slices of bytes) are told in this proof's words for memory.
-/
import Derived.Test.YtidengmcbppcoaaOcW
import Derived.ProofKit
import Derived.OpenShut
import Derived.SizedLaws
import Derived.Deep.Matrix
import Derived.Deep.Slices
namespace Go.Proofs.Ytidengmcbppcoaa.oc
open Go.ChangeShapes Go.WideShapes Go.ChangeAt Go.RowKit

/-- unsigned numbers as cells -/
def nu (k : IntKind) (l : List Nat) : List Value := l.map (fun x : Nat => Value.int k (x : Int))
theorem nu_u8 (l : List Nat) : nu .u8 l = by_ l := rfl
theorem nu_at {k : IntKind} {l : List Nat} {i x : Nat} (h : l[i]? = some x) : (nu k l)[i]? = some (.int k (x : Int)) := by simp [nu, h]

/-- numbers of kind k that came in: the slice A of length n and capacity c shows l -/
def IsNums (k : IntKind) (m : Nat) (w : World) (A : Option Addr) (n c : Nat) (l : List Nat) : Prop :=
  l.length = n ∧ n ≤ c ∧ (∀ x ∈ l, x < m) ∧ Rd w w.heap.size A (nu k l)

theorem IsNums.bytes {w : World} {A : Option Addr} {n c : Nat} {l : List Nat} (h : IsNums .u8 256 w A n c l) : l.length = n ∧ n ≤ c ∧ Small l ∧ Rd w w.heap.size A (by_ l) := h
theorem rd_of_cells {w : World} {a : Addr} {xs : List Value} (h : ∀ i v, xs[i]? = some v → w.cell? (a.add i) = some v) : Rd w w.heap.size (some a) xs := by
  intro k v hk
  have hc := h k v hk
  obtain ⟨b, o, s⟩ := a
  have h0 : 0 < xs.length := by
    have := (List.getElem?_eq_some_iff.1 hk).1
    omega
  have hc0 := h 0 _ (List.getElem?_eq_getElem h0)
  have hs : s = none := by simpa [Addr.add] using World.cell?_spot hc0
  subst hs
  refine ⟨b, o, rfl, ?_, ?_⟩
  · have := World.block_lt_of_cell? w _ hc
    rwa [Addr.add_lit] at this
  · rwa [Addr.add_lit] at hc

theorem nums_of_ints {k : IntKind} {m : Nat} (hk : ∀ z, (Lit.int k z).wf = true → 0 ≤ z ∧ z < (m : Int)) {w : World} {a : Addr} {len cap : Nat} {zs : List Int} (hl : len ≤ cap) (hz : zs.length = cap)
    (hcell : ∀ i, i < zs.length → w.cell? (a.add i) = some (.int k (zs.getD i 0))) (hwz : ∀ n ∈ zs, (Lit.int k n).wf = true) :
    IsNums k m w (some a) len cap ((zs.take len).map Int.toNat) := by
  refine ⟨by rw [List.length_map, List.length_take]; omega, hl, ?_, rd_of_cells ?_⟩
  · intro x hx
    simp only [List.mem_map] at hx
    obtain ⟨z, hzz, rfl⟩ := hx
    have := hk z (hwz z (List.mem_of_mem_take hzz))
    omega
  · intro i v hv
    simp only [nu, List.getElem?_map, Option.map_eq_some_iff] at hv
    obtain ⟨x, hx, rfl⟩ := hv
    obtain ⟨z, hzi, rfl⟩ := hx
    rw [List.getElem?_take] at hzi
    split at hzi
    · have hi := (List.getElem?_eq_some_iff.1 hzi).1
      have hc := hcell i hi
      rw [List.getD_eq_getElem?_getD, hzi, Option.getD_some] at hc
      rw [hc]
      have := (hk z (hwz z (List.mem_of_getElem? hzi))).1
      congr 2
      omega
    · cases hzi

theorem wf_u8 (z : Int) (h : (Lit.int .u8 z).wf = true) : 0 ≤ z ∧ z < ((256 : Nat) : Int) := by
  have : 0 ≤ z ∧ z ≤ 255 := by simpa [Lit.wf, IntKind.min, IntKind.max, IntKind.signed, IntKind.bits] using h
  omega
theorem wf_u16 (z : Int) (h : (Lit.int .u16 z).wf = true) : 0 ≤ z ∧ z < ((65536 : Nat) : Int) := by
  have : 0 ≤ z ∧ z ≤ 65535 := by simpa [Lit.wf, IntKind.min, IntKind.max, IntKind.signed, IntKind.bits] using h
  omega
theorem wf_u64 (z : Int) (h : (Lit.int .u64 z).wf = true) : 0 ≤ z ∧ z < ((18446744073709551616 : Nat) : Int) := by
  have : 0 ≤ z ∧ z ≤ 18446744073709551615 := by simpa [Lit.wf, IntKind.min, IntKind.max, IntKind.signed, IntKind.bits] using h
  omega
theorem wf_i64 (z : Int) (h : (Lit.int .i64 z).wf = true) : -9223372036854775808 ≤ z ∧ z ≤ 9223372036854775807 := by
  simpa [Lit.wf, IntKind.min, IntKind.max, IntKind.signed, IntKind.bits] using h

section
variable {H : Type} {enc : TypeId × Value → H} {P : Program} {W : World}
/-- a slice of unsigned numbers that came in, and how long its datum is -/
theorem open_nums {t e : TypeId} {k : IntKind} {m : Nat} {A : Option Addr} {n c : Nat} {d : DataW H} {p : List MemPlace} (hk : ∀ z, (Lit.int k z).wf = true → 0 ≤ z ∧ z < (m : Int))
    (ht : P.underlying t = some (.slice e)) (he : P.underlying e = some (.int k)) (hc : P.cellsOf e = 1) (h : DataW.Trod enc P W 0 (fun _ => true) true t (.slice A n c) d p) :
    ∃ l, IsNums k m W A n c l ∧ (d = .nil ∧ c = 0 ∨ ∃ es sp, d = .slice es sp ∧ es.length = n ∧ es.length + sp.length = c) := by
  obtain ⟨fuel, hf⟩ := h
  rcases open_ints ht he hc hf with ⟨hcs, hx⟩ | ⟨a, l, c', zs, hcs, _, hl, hm, hz, hx, hcell, hwz⟩
  · simp only [Value.cells, List.cons.injEq, Value.slice.injEq, and_true] at hcs
    obtain ⟨rfl, rfl, rfl⟩ := hcs
    simp only [Prod.mk.injEq] at hx
    exact ⟨[], ⟨rfl, Nat.le_refl _, (fun x hx => by cases hx), Rd.nil_⟩, .inl ⟨hx.1, rfl⟩⟩
  · simp only [Value.cells, List.cons.injEq, Value.slice.injEq, and_true] at hcs
    obtain ⟨rfl, rfl, rfl⟩ := hcs
    simp only [Prod.mk.injEq] at hx
    have hz' : zs.length = c := by simpa using hz
    refine ⟨_, nums_of_ints hk hl hz' hcell hwz, .inr ⟨_, _, hx.1, ?_, ?_⟩⟩
    · simp [lits]; omega
    · simp [lits]; omega
/-- the reach: so many cells at the most -/
theorem reach_nums {ts : List TypeId} {ds : List (DataW H)} (hsz : (DataW.weightsEach P ts ds).all (· ≤ reachBytes) = true) {j : Nat} {t e : TypeId} {n c : Nat} {d : DataW H} (htj : ts[j]? = some t) (hdj : ds[j]? = some d)
    (hu : P.underlying t = some (.slice e)) {b : Nat} (hbe : P.bytesOf e = b) (hb : 1 ≤ b) (h : d = .nil ∧ c = 0 ∨ ∃ es sp, d = .slice es sp ∧ es.length = n ∧ es.length + sp.length = c) : c ≤ 140737488351232 := by
  rcases h with ⟨_, rfl⟩ | ⟨es, sp, rfl, _, h2⟩
  · omega
  · have := sized_slice hsz htj hdj hu
    rw [h2] at this
    rw [hbe] at this
    have h3 : c * 1 ≤ c * b := Nat.mul_le_mul_left c hb
    have h4 : reachBytes = 140737488351232 := rfl
    omega
end
end Go.Proofs.Ytidengmcbppcoaa.oc
