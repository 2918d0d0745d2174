/-
  Arguments that are slices of structs of integers alone, told in this proof's words for memory.
-/
import Derived.Test.YtgenblefbddilaaOcOpen
import Derived.Deep.Slices
import Derived.Deep.SlicePairs
import Derived.ChangeArms
namespace Go.Proofs.Ytgenblefbddilaa.oc
open Go.ChangeShapes Go.WideShapes Go.ChangeAt Go.RowKit
/-- the slice A of length n shows the structs xs, whose fields are of the kinds ks -/
def IsRecs (w : World) (ks : List IntKind) (A : Option Addr) (n : Nat) (xs : List (List Int)) : Prop := xs.length = n ∧ ∀ i x, xs[i]? = some x → x.length = ks.length ∧ (∀ (j : Nat) (k : IntKind) (z : Int), ks[j]? = some k → x[j]? = some z → (Lit.int k z).wf = true) ∧ ∃ b o, A = some ⟨b, o, none⟩ ∧ b < w.heap.size ∧ ∀ (j : Nat) (k : IntKind) (z : Int), ks[j]? = some k → x[j]? = some z → w.cell? ⟨b, o + i * ks.length + j, none⟩ = some (.int k z)
section
variable {H : Type} {enc : TypeId × Value → H} {P : Program} {W : World}
theorem rec_zero {a : Addr} {v : Value} (h : W.cell? (a.add 0) = some v) : ∃ b o, a = ⟨b, o, none⟩ := by
  obtain ⟨b, o, s⟩ := a
  have hs : s = none := by simpa [Addr.add] using World.cell?_spot h
  subst hs
  exact ⟨b, o, rfl⟩
theorem take_one {α : Type} (l : List α) (j : Nat) (h : j < l.length) : (l.drop j).take 1 = [l[j]] := by
  rw [List.drop_eq_getElem_cons h]; rfl
theorem open_recs {t e : TypeId} {fs : Array Field} {ks : List IntKind} {A : Option Addr} {n c : Nat} {d : DataW H} {p : List MemPlace} (ht : P.underlying t = some (.slice e)) (he : P.underlying e = some (.struct fs))
    (ce : P.cellsOf e = ks.length) (h0 : 0 < ks.length) (hsz : fs.size = ks.length) (hfs : ∀ (j : Nat) (f : Field) (k : IntKind), fs[j]? = some f → ks[j]? = some k → f.offset = j ∧ P.cellsOf f.type = 1 ∧ P.underlying f.type = some (.int k))
    (h : DataW.Trod enc P W 0 (fun _ => true) true t (.slice A n c) d p) : ∃ xs, IsRecs W ks A n xs ∧ n ≤ c ∧ (d = .nil ∧ c = 0 ∨ ∃ es sp, d = .slice es sp ∧ es.length = n ∧ es.length + sp.length = c) := by
  obtain ⟨fuel, hf⟩ := h
  rcases Go.Deep.open_slice ht hf with ⟨hcs, hx⟩ | ⟨a, len, cap, m, k, D, Pl, hcs, _, hl, _, hm, hxx, hx⟩
  · simp only [Value.cells, List.cons.injEq, Value.slice.injEq, and_true] at hcs
    obtain ⟨rfl, rfl, rfl⟩ := hcs
    simp only [Prod.mk.injEq] at hx
    exact ⟨[], ⟨rfl, fun i x hx => by simp at hx⟩, Nat.le_refl _, .inl ⟨hx.1, rfl⟩⟩
  · simp only [Value.cells, List.cons.injEq, Value.slice.injEq, and_true] at hcs
    obtain ⟨rfl, rfl, rfl⟩ := hcs
    simp only [if_true] at hm
    simp only [Prod.mk.injEq] at hxx
    have each : ∀ i, i < n → ∃ x : List Int, x.length = ks.length ∧ (∀ (j : Nat) (k : IntKind) (z : Int), ks[j]? = some k → x[j]? = some z → (Lit.int k z).wf = true) ∧ ∃ b o, a = ⟨b, o, none⟩ ∧ b < W.heap.size ∧ ∀ (j : Nat) (k : IntKind) (z : Int), ks[j]? = some k → x[j]? = some z → W.cell? ⟨b, o + i * ks.length + j, none⟩ = some (.int k z) := fun i hi => by
      obtain ⟨cs', h1, h2⟩ := hx i (by omega)
      rw [ce] at h1
      obtain ⟨_, hlen, hcell⟩ := World.cells?_some h1
      obtain ⟨ys, k', hk, hxy, _, hxl, hf'⟩ := DataW.trod_struct he h2
      have each2 : ∀ j, j < ks.length → ∃ z, ∀ k, ks[j]? = some k → cs'[j]? = some (.int k z) ∧ (Lit.int k z).wf = true := fun j hj => by
        have hkj : ks[j]? = some ks[j] := List.getElem?_eq_getElem hj
        have hfj : fs[j]? = some fs[j] := Array.getElem?_eq_getElem (by omega)
        obtain ⟨q1, q2, q3⟩ := hfs j _ _ hfj hkj
        have g := hf' j _ hfj
        rw [q1, q2, take_one cs' j (by omega), List.getElem?_eq_getElem (by omega)] at g
        obtain ⟨z, e0, _, u0⟩ := DataW.trod_int q3 g
        have e0' : cs'[j] = .int ks[j] z := by simpa using e0
        refine ⟨z, fun k hk => ?_⟩
        rw [hkj] at hk
        injection hk with hk
        subst hk
        exact ⟨by rw [List.getElem?_eq_getElem (by omega), e0'], u0⟩
      obtain ⟨f, hfx⟩ := Go.Deep.choose_lt each2
      have at_ : ∀ j z, ((List.range ks.length).map f)[j]? = some z → j < ks.length ∧ z = f j := fun j z hz => by
        have hj : j < ks.length := by have := (List.getElem?_eq_some_iff.1 hz).1; simpa using this
        simp [hj] at hz
        exact ⟨hj, hz.symm⟩
      obtain ⟨b, o, rfl⟩ := (by
        obtain ⟨b, o, s⟩ := a
        have hs : s = none := by
          obtain ⟨cs0, g1, _⟩ := hx 0 (by omega)
          rw [ce] at g1
          obtain ⟨_, gl, gc⟩ := World.cells?_some g1
          have k1 := gc 0 (by omega)
          rw [Go.Deep.add_add, List.getElem?_eq_getElem (by omega)] at k1
          simp only [Nat.zero_mul, Nat.zero_add] at k1
          simpa [Addr.add] using World.cell?_spot k1
        subst hs
        exact ⟨b, o, rfl⟩ : ∃ b o, a = ⟨b, o, none⟩)
      have cl : ∀ j k z, ks[j]? = some k → ((List.range ks.length).map f)[j]? = some z → W.cell? ⟨b, o + i * ks.length + j, none⟩ = some (.int k z) := fun j k z hk hz => by
        obtain ⟨hj, rfl⟩ := at_ j z hz
        have kj := hcell j (by omega)
        rw [((hfx j hj) k hk).1, Go.Deep.add_add, Addr.add_lit, ← Nat.add_assoc] at kj
        exact kj
      refine ⟨(List.range ks.length).map f, by simp, fun j k z hk hz => ?_, b, o, rfl, ?_, cl⟩
      · obtain ⟨hj, rfl⟩ := at_ j z hz
        exact ((hfx j hj) k hk).2
      · obtain ⟨kk, hkk⟩ : ∃ kk, ks[0]? = some kk := ⟨_, List.getElem?_eq_getElem h0⟩
        exact World.block_lt_of_cell? W _ (cl 0 kk (f 0) hkk (by simp [h0]))
    obtain ⟨f, hfx⟩ := Go.Deep.choose_lt each
    refine ⟨(List.range n).map f, ⟨by simp, fun i x hx => ?_⟩, hl, .inr ⟨_, _, hxx.1, by simp, by simp; omega⟩⟩
    have hi : i < n := by have := (List.getElem?_eq_some_iff.1 hx).1; simpa using this
    simp [hi] at hx
    subst hx
    obtain ⟨h1, h2, b, o, rfl, h3, h4⟩ := hfx i hi
    exact ⟨h1, h2, b, o, rfl, h3, h4⟩
end
end Go.Proofs.Ytgenblefbddilaa.oc
