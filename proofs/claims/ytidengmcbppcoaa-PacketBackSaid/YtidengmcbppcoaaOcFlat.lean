/-
  Arguments of flat types (integers, bools, strings, arrays and structs of such), and slices of them, told in this proof's words for memory.
-/
import Derived.Test.YtidengmcbppcoaaOcOpen
import Derived.Deep.Slices
import Derived.Deep.SlicePairs
import Derived.ChangeArms
import Derived.OpenShut
namespace Go.Proofs.Ytidengmcbppcoaa.flat
open Go.ChangeShapes Go.WideShapes Go.ChangeAt Go.RowKit Go.Proofs.Ytidengmcbppcoaa.oc
/-- a cell's kind -/
inductive K where
  | int (k : IntKind)
  | bool
  | str
/-- a cell of that kind -/
def K.ok : K → Value → Prop
  | .int k, v => ∃ z, v = .int k z ∧ (Lit.int k z).wf = true
  | .bool, v => ∃ b, v = .bool b
  | .str, v => ∃ s : ByteArray, v = .string s ∧ s.size ≤ maxLen
/-- the kinds of a struct's cells, from the offset o on -/
def kindsF (P : Program) (go : TypeId → Option (List K)) : List Field → Nat → Option (List K)
  | [], _ => some []
  | f :: r, o => if f.offset = o then match go f.type with
      | some l => if P.cellsOf f.type = l.length then (kindsF P go r (o + l.length)).map (l ++ ·) else none
      | none => none
    else none
/-- the kinds of a type's cells -/
def kinds (P : Program) : Nat → TypeId → Option (List K)
  | 0, _ => none
  | d + 1, t => match P.underlying t with
    | some (.int k) => some [.int k]
    | some .bool => some [.bool]
    | some .string => some [.str]
    | some (.array n e) => match kinds P d e with
      | some l => if P.cellsOf e = l.length ∧ P.cellsOf t = n * l.length then some (List.replicate n l).flatten else none
      | none => none
    | some (.struct fs) => match kindsF P (kinds P d) fs.toList 0 with
      | some l => if P.cellsOf t = l.length then some l else none
      | none => none
    | _ => none
/-- the cells fit the kinds, from o on -/
def Fit (ks : List K) (cs : List Value) (o : Nat) : Prop := ∀ j k, ks[j]? = some k → ∃ v, cs[o + j]? = some v ∧ k.ok v
theorem Fit.nil (cs : List Value) (o : Nat) : Fit [] cs o := fun j k h => by simp at h
theorem Fit.append {a b : List K} {cs : List Value} {o : Nat} (h : Fit a cs o) (k : Fit b cs (o + a.length)) : Fit (a ++ b) cs o := fun j x hj => by
  rcases Nat.lt_or_ge j a.length with q | q
  · rw [List.getElem?_append_left q] at hj; exact h j x hj
  · rw [List.getElem?_append_right q] at hj
    have := k _ x hj
    rwa [show o + a.length + (j - a.length) = o + j from by omega] at this
theorem Fit.sub {a : List K} {cs : List Value} {o n : Nat} (h : Fit a ((cs.drop o).take n) 0) : Fit a cs o := fun j x hj => by
  obtain ⟨v, hv, hk⟩ := h j x hj
  rw [Nat.zero_add, List.getElem?_take] at hv
  split at hv
  · rw [List.getElem?_drop] at hv; exact ⟨v, hv, hk⟩
  · cases hv
section
variable {H : Type} {enc : TypeId × Value → H} {P : Program} {W : World} {base : Nat} {spare : Nat → Bool} {held : Bool}
theorem fields_fit (go : TypeId → Option (List K)) (m : Nat) (cs : List Value) : ∀ (fs : List Field) (o : Nat) (ks : List K), kindsF P go fs o = some ks →
    (∀ f ∈ fs, ∀ l, go f.type = some l → P.cellsOf f.type = l.length → ∃ y, DataW.trod enc P W base spare held m f.type ((cs.drop f.offset).take (P.cellsOf f.type)) = some y) →
    (∀ (t : TypeId) (l : List K) cs' y, go t = some l → DataW.trod enc P W base spare held m t cs' = some y → cs'.length = P.cellsOf t → Fit l cs' 0) →
    (∀ f ∈ fs, ((cs.drop f.offset).take (P.cellsOf f.type)).length = P.cellsOf f.type) → Fit ks cs o
  | [], o, ks, h, _, _, _ => by simp [kindsF] at h; subst h; exact Fit.nil _ _
  | f :: r, o, ks, h, ht, ih, hl => by
    unfold kindsF at h
    split at h
    · rename_i ho
      split at h
      · rename_i l hgo
        split at h
        · rename_i hc
          obtain ⟨ks', hk', rfl⟩ := Option.map_eq_some_iff.1 h
          obtain ⟨y, hy⟩ := ht f (by simp) l hgo hc
          have h1 := ih f.type l _ y hgo hy (hl f (by simp))
          rw [ho] at h1
          exact Fit.append h1.sub (fields_fit go m cs r (o + l.length) ks' hk' (fun g hg => ht g (by simp [hg])) ih (fun g hg => hl g (by simp [hg])))
        · cases h
      · cases h
    · cases h
theorem kinds_fit : ∀ (d : Nat) (t : TypeId) (ks : List K) (fuel : Nat) (cs : List Value) (x : DataW H × List MemPlace), kinds P d t = some ks → DataW.trod enc P W base spare held fuel t cs = some x → cs.length = ks.length ∧ Fit ks cs 0
  | 0, t, ks, fuel, cs, x, hk, _ => by simp [kinds] at hk
  | d + 1, t, ks, fuel, cs, x, hk, h => by
    unfold kinds at hk
    split at hk
    · rename_i k hu
      obtain ⟨z, rfl, _, hw⟩ := DataW.trod_int hu h
      injection hk with hk; subst hk
      exact ⟨rfl, fun j k' hj => by
        cases j with
        | zero => simp at hj; subst hj; exact ⟨_, rfl, z, rfl, hw⟩
        | succ j => simp at hj⟩
    · rename_i hu
      obtain ⟨b, rfl, _⟩ := DataW.trod_bool hu h
      injection hk with hk; subst hk
      exact ⟨rfl, fun j k' hj => by
        cases j with
        | zero => simp at hj; subst hj; exact ⟨_, rfl, b, rfl⟩
        | succ j => simp at hj⟩
    · rename_i hu
      obtain ⟨s, rfl, _, hw⟩ := DataW.trod_string hu h
      injection hk with hk; subst hk
      exact ⟨rfl, fun j k' hj => by
        cases j with
        | zero => simp at hj; subst hj; exact ⟨_, rfl, s, rfl, hw⟩
        | succ j => simp at hj⟩
    · rename_i n e hu
      split at hk
      · rename_i l hl
        split at hk
        · rename_i hc
          injection hk with hk; subst hk
          obtain ⟨xs, m, rfl, _, hlen, hxl, hel⟩ := DataW.trod_array hu h
          have each : ∀ i, i < n → Fit l cs (i * l.length) := fun i hi => by
            have he := hel i hi
            rw [List.getElem?_eq_getElem (by omega)] at he
            have := (kinds_fit d e l m _ _ hl he).2.sub
            rwa [hc.1] at this
          have all : ∀ j, j ≤ n → Fit (List.replicate j l).flatten cs 0 := fun j => by
            induction j with
            | zero => intro _; exact Fit.nil _ _
            | succ j ih =>
              intro hj
              rw [List.replicate_succ', List.flatten_append]
              refine Fit.append (ih (by omega)) ?_
              simp only [List.flatten_cons, List.flatten_nil, List.append_nil, Nat.zero_add, List.length_flatten, List.map_replicate, List.sum_replicate_nat]
              exact each j (by omega)
          refine ⟨?_, all n (Nat.le_refl _)⟩
          rw [hlen, hc.2]
          simp [List.length_flatten, List.sum_replicate_nat]
        · cases hk
      · cases hk
    · rename_i fs hu
      split at hk
      · rename_i l hl
        split at hk
        · rename_i hc
          injection hk with hk; subst hk
          obtain ⟨xs, m, rfl, _, hlen, hxl, hel⟩ := DataW.trod_struct hu h
          have hone : ∀ f ∈ fs.toList, ∃ y, DataW.trod enc P W base spare held m f.type ((cs.drop f.offset).take (P.cellsOf f.type)) = some y := fun f hf => by
            obtain ⟨i, hi, rfl⟩ := List.getElem_of_mem hf
            have hi' : i < fs.size := by simpa using hi
            have := hel i fs[i] (Array.getElem?_eq_getElem hi')
            rw [List.getElem?_eq_getElem (by omega)] at this
            exact ⟨_, by simpa using this⟩
          refine ⟨by rw [hlen, hc], fields_fit (kinds P d) m cs fs.toList 0 l hl (fun f hf l' _ _ => hone f hf) (fun t l' cs' y hg hy _ => (kinds_fit d t l' m cs' y hg hy).2) (fun f hf => ?_)⟩
          obtain ⟨y, hy⟩ := hone f hf
          obtain ⟨l', hl', hc'⟩ : ∃ l', kinds P d f.type = some l' ∧ P.cellsOf f.type = l'.length := kindsF_each hl f hf
          rw [(kinds_fit d f.type l' m _ y hl' hy).1, hc']
        · cases hk
      · cases hk
    · cases hk
where
  kindsF_each {go : TypeId → Option (List K)} : ∀ {fs : List Field} {o : Nat} {ks : List K}, kindsF P go fs o = some ks → ∀ f ∈ fs, ∃ l, go f.type = some l ∧ P.cellsOf f.type = l.length
  | [], _, _, _, f, hf => by simp at hf
  | g :: r, o, ks, h, f, hf => by
    unfold kindsF at h
    split at h
    · split at h
      · rename_i l hgo
        split at h
        · rename_i hc
          obtain ⟨ks', hk', _⟩ := Option.map_eq_some_iff.1 h
          rcases List.mem_cons.1 hf with rfl | hf
          · exact ⟨l, hgo, hc⟩
          · exact kindsF_each hk' f hf
        · cases h
      · cases h
    · cases h
/-- the slice A of length n shows the elements xs, whose cells are of the kinds ks -/
def IsFlat (w : World) (ks : List K) (A : Option Addr) (n : Nat) (xs : List (List Value)) : Prop := xs.length = n ∧ ∀ i x, xs[i]? = some x → x.length = ks.length ∧ Fit ks x 0 ∧ ∃ b o, A = some ⟨b, o, none⟩ ∧ b < w.heap.size ∧ ∀ (j : Nat) (v : Value), x[j]? = some v → w.cell? ⟨b, o + i * ks.length + j, none⟩ = some v
theorem open_flat {t e : TypeId} {dd : Nat} {ks : List K} {A : Option Addr} {n c : Nat} {d : DataW H} {p : List MemPlace} (ht : P.underlying t = some (.slice e)) (hk : kinds P dd e = some ks) (ce : P.cellsOf e = ks.length) (h0 : 0 < ks.length)
    (h : DataW.Trod enc P W 0 (fun _ => true) true t (.slice A n c) d p) : ∃ xs, IsFlat W ks A n xs ∧ n ≤ c ∧ (d = .nil ∧ c = 0 ∨ ∃ es sp, d = .slice es sp ∧ es.length = n ∧ es.length + sp.length = c) := by
  obtain ⟨fuel, hf⟩ := h
  rcases Go.Deep.open_slice ht hf with ⟨hcs, hx⟩ | ⟨a, len, cap, m, k, D, Pl, hcs, _, hl, _, hm, hxx, hx⟩
  · simp only [Value.cells, List.cons.injEq, Value.slice.injEq, and_true] at hcs
    obtain ⟨rfl, rfl, rfl⟩ := hcs
    simp only [Prod.mk.injEq] at hx
    exact ⟨[], ⟨rfl, fun i x hx => by simp at hx⟩, Nat.le_refl _, .inl ⟨hx.1, rfl⟩⟩
  · simp only [Value.cells, List.cons.injEq, Value.slice.injEq, and_true] at hcs
    obtain ⟨rfl, rfl, rfl⟩ := hcs
    simp only [if_true] at hm
    simp only [Prod.mk.injEq] at hxx
    have each : ∀ i, i < n → ∃ x : List Value, x.length = ks.length ∧ Fit ks x 0 ∧ ∀ j, j < ks.length → W.cell? (a.add (i * ks.length + j)) = x[j]? := fun i hi => by
      obtain ⟨cs', h1, h2⟩ := hx i (by omega)
      rw [ce] at h1
      obtain ⟨_, hlen, hcell⟩ := World.cells?_some h1
      obtain ⟨q1, q2⟩ := kinds_fit dd e ks k cs' _ hk h2
      exact ⟨cs', q1, q2, fun j hj => by rw [← hcell j hj, Go.Deep.add_add]⟩
    obtain ⟨f, hfx⟩ := Go.Deep.choose_lt each
    refine ⟨(List.range n).map f, ⟨by simp, fun i x hx => ?_⟩, hl, .inr ⟨_, _, hxx.1, by simp, by simp; omega⟩⟩
    have hi : i < n := by have := (List.getElem?_eq_some_iff.1 hx).1; simpa using this
    simp [hi] at hx
    subst hx
    obtain ⟨h1, h2, h3⟩ := hfx i hi
    obtain ⟨b, o, s⟩ := a
    have hs : s = none := by
      obtain ⟨g1, _, g3⟩ := hfx 0 (by omega)
      have k1 := g3 0 h0
      rw [List.getElem?_eq_getElem (by omega), Nat.zero_mul, Nat.zero_add] at k1
      simpa [Addr.add] using World.cell?_spot k1
    subst hs
    have hc : ∀ (j : Nat) (v : Value), (f i)[j]? = some v → W.cell? ⟨b, o + i * ks.length + j, none⟩ = some v := fun j v hv => by
      have hj : j < ks.length := by have := (List.getElem?_eq_some_iff.1 hv).1; omega
      have := h3 j hj
      rwa [Addr.add_lit, ← Nat.add_assoc, hv] at this
    refine ⟨h1, h2, b, o, rfl, ?_, hc⟩
    exact World.block_lt_of_cell? W _ (hc 0 _ (List.getElem?_eq_getElem (by omega)))
theorem reach_flat {ts : List TypeId} {ds : List (DataW H)} (hsz : (DataW.weightsEach P ts ds).all (· ≤ reachBytes) = true) {j : Nat} {t e : TypeId} {n c : Nat} {d : DataW H} (htj : ts[j]? = some t) (hdj : ds[j]? = some d)
    (hu : P.underlying t = some (.slice e)) {b : Nat} (hbe : P.bytesOf e = b) (h : d = .nil ∧ c = 0 ∨ ∃ es sp, d = .slice es sp ∧ es.length = n ∧ es.length + sp.length = c) : c * b ≤ 140737488351232 := by
  rcases h with ⟨_, rfl⟩ | ⟨es, sp, rfl, _, h2⟩
  · omega
  · have := sized_slice hsz htj hdj hu
    rw [h2] at this
    rw [hbe] at this
    have h4 : reachBytes = 140737488351232 := rfl
    omega
end
/-- cells that are all 64 bits -/
theorem all_u64 {n : Nat} {x : List Value} (hl : x.length = n) (h : Fit (List.replicate n (.int .u64)) x 0) : ∃ l : List Nat, l.length = n ∧ x = l.map (fun y : Nat => Value.int .u64 (y : Int)) ∧ ∀ y ∈ l, y < 18446744073709551616 := by
  have each : ∀ j, j < n → ∃ y : Nat, x[j]? = some (.int .u64 (y : Int)) ∧ y < 18446744073709551616 := fun j hj => by
    obtain ⟨v, hv, z, rfl, hw⟩ := h j (.int .u64) (by simp [hj])
    obtain ⟨h1, h2⟩ := wf_u64 z hw
    obtain ⟨y, rfl⟩ := Int.eq_ofNat_of_zero_le h1
    rw [Nat.zero_add] at hv
    exact ⟨y, hv, by omega⟩
  obtain ⟨f, hf⟩ := Go.Deep.choose_lt each
  refine ⟨(List.range n).map f, by simp, ?_, fun y hy => ?_⟩
  · apply List.ext_getElem?
    intro j
    by_cases hj : j < n
    · rw [(hf j hj).1]; simp [hj]
    · rw [List.getElem?_eq_none (by omega)]; simp [hj]
  · simp only [List.mem_map, List.mem_range] at hy
    obtain ⟨j, hj, rfl⟩ := hy
    exact (hf j hj).2
end Go.Proofs.Ytidengmcbppcoaa.flat
