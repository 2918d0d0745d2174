/-
  What the bound of the second form gives: how long a slice may be that came in.
-/
import Derived.Test.YtbnkmfmbbbcogaaOcOpen
import Derived.Test.YtbnkmfmbbbcogaaRows
namespace Go.Proofs.Ytbnkmfmbbbcogaa.oc
open Go.ChangeShapes Go.WideShapes Go.ChangeAt Go.RowKit
section
variable {H : Type}
theorem bulk_pos (d : DataW H) : 1 ≤ Rows.uptoBulk d := by
  cases d with
  | lit l => cases l <;> simp [Rows.uptoBulk]
  | nil => simp [Rows.uptoBulk]
  | ptr d => simp [Rows.uptoBulk]
  | slice elems spare => simp [Rows.uptoBulk]
  | agg parts => simp [Rows.uptoBulk]
  | iface t d => simp [Rows.uptoBulk]
  | map entries => simp [Rows.uptoBulk]
  | held h => simp [Rows.uptoBulk]
theorem bulk_mem {d : DataW H} {l : List (DataW H)} (h : d ∈ l) : Rows.uptoBulk d ≤ Rows.uptoBulkAll l := by
  induction l with
  | nil => cases h
  | cons x r ih =>
    simp only [Rows.uptoBulkAll]
    rcases List.mem_cons.1 h with e | e
    · subst e; omega
    · have := ih e; omega
theorem bulk_len (l : List (DataW H)) : l.length ≤ Rows.uptoBulkAll l := by
  induction l with
  | nil => simp [Rows.uptoBulkAll]
  | cons x r ih => have := bulk_pos x; simp only [Rows.uptoBulkAll, List.length_cons]; omega
theorem bulk_of {l : List (DataW H)} (hk : Rows.uptoSmall H l = true) : Rows.uptoBulkAll l ≤ 1048576 := of_decide_eq_true hk
/-- a slice of numbers within the bound -/
theorem bulk_nums {l : List (DataW H)} (hk : Rows.uptoSmall H l = true) {d : DataW H} {n c : Nat} (hd : d ∈ l) (h : d = .nil ∧ c = 0 ∨ ∃ es sp, d = .slice es sp ∧ es.length = n ∧ es.length + sp.length = c) : c ≤ 1048576 := by
  have h1 := bulk_of hk
  have h2 := bulk_mem hd
  rcases h with ⟨_, rfl⟩ | ⟨es, sp, rfl, _, h3⟩
  · omega
  · have h4 := bulk_len es
    have h5 := bulk_len sp
    simp only [Rows.uptoBulk] at h2
    omega
/-- a slice of slices within the bound: all elements together -/
theorem bulk_map (f : Nat → DataW H) (L : Nat → Nat) (h : ∀ r, L r + 1 ≤ Rows.uptoBulk (f r)) (l : List Nat) : (l.map L).sum + l.length ≤ Rows.uptoBulkAll (l.map f) := by
  induction l with
  | nil => simp [Rows.uptoBulkAll]
  | cons x r ih => have := h x; simp only [List.map_cons, List.sum_cons, List.length_cons, Rows.uptoBulkAll]; omega
end
/-- slices of bytes that came in -/
def IsParts (w : World) (P : Option Addr) (n c : Nat) (ps : List (List Nat)) : Prop :=
  ps.length = n ∧ n ≤ c ∧ (∀ bs, bs ∈ ps → Small bs) ∧ Pt w w.heap.size P ps
section
variable {H : Type} {enc : TypeId × Value → H} {P : Program} {W : World}
theorem open_parts {t e q : TypeId} {A : Option Addr} {n c : Nat} {d : DataW H} {p : List MemPlace} (ht : P.underlying t = some (.slice e)) (he : P.underlying e = some (.slice q)) (hq : P.underlying q = some (.int .u8))
    (ce : P.cellsOf e = 1) (cq : P.cellsOf q = 1) (h : DataW.Trod enc P W 0 (fun _ => true) true t (.slice A n c) d p) :
    ∃ ps, IsParts W A n c ps ∧ (∀ bs, bs ∈ ps → bs.length ≤ maxLen) ∧ ps.flatten.length + n ≤ Rows.uptoBulk d := by
  obtain ⟨fuel, hf⟩ := h
  rcases Deep.open_int_rows ht he hq ce cq hf with ⟨hcs, hx⟩ | ⟨a, len, cap, A', L, C, Z, hcs, _, hl, hm, hx, hrow⟩
  · simp only [Value.cells, List.cons.injEq, Value.slice.injEq, and_true] at hcs
    obtain ⟨rfl, rfl, rfl⟩ := hcs
    exact ⟨[], ⟨rfl, Nat.le_refl _, (fun bs hb => by cases hb), (fun k bs hk => by simp at hk)⟩, (fun bs hb => by cases hb), by simp⟩
  · simp only [Value.cells, List.cons.injEq, Value.slice.injEq, and_true] at hcs
    obtain ⟨rfl, rfl, rfl⟩ := hcs
    simp only [Prod.mk.injEq] at hx
    have hel : ∀ r, r < n → ((Z r).take (L r)).length = L r := fun r hr => by
      obtain ⟨_, h2, _, h4, _⟩ := hrow r (by omega)
      rw [List.length_take]; omega
    have hget : ∀ (k : Nat) (bs : List Nat), ((List.range n).map (fun r => ((Z r).take (L r)).map Int.toNat))[k]? = some bs → k < n ∧ bs = ((Z k).take (L k)).map Int.toNat := fun k bs hk => by
      rw [List.getElem?_map] at hk
      rcases Nat.lt_or_ge k n with hlt | hge
      · rw [List.getElem?_range hlt] at hk
        exact ⟨hlt, by simpa using hk.symm⟩
      · rw [List.getElem?_eq_none (by simpa using hge)] at hk
        cases hk
    have hnum : ∀ r, r < n → ∃ A2 c2, W.cell? (a.add r) = some (.slice A2 (((Z r).take (L r)).map Int.toNat).length c2) ∧ Small (((Z r).take (L r)).map Int.toNat) ∧ Rd W W.heap.size A2 (by_ (((Z r).take (L r)).map Int.toNat)) := fun r hr => by
      obtain ⟨h1, h2, h3, h4, h5, h6, h7⟩ := hrow r (by omega)
      refine ⟨A' r, C r, by rw [List.length_map, hel r hr]; exact h1, ?_⟩
      cases hA : A' r with
      | none =>
        have hz : Z r = [] := List.eq_nil_of_length_eq_zero (by rw [h4]; exact h6 hA)
        rw [hz]
        simp only [List.take_nil, List.map_nil]
        exact ⟨Small.nil, Rd.nil_⟩
      | some a' =>
        obtain ⟨_, h8⟩ := h7 a' hA
        have := nums_of_ints wf_u8 (w := W) (a := a') h2 h4 (fun i hi => h8 i (by omega)) h5
        exact ⟨this.bytes.2.2.1, this.bytes.2.2.2⟩
    refine ⟨(List.range n).map (fun r => ((Z r).take (L r)).map Int.toNat), ⟨by simp, hl, ?_, ?_⟩, ?_, ?_⟩
    · intro bs hb
      obtain ⟨k, hk⟩ := List.getElem?_of_mem hb
      obtain ⟨hlt, rfl⟩ := hget k bs hk
      obtain ⟨_, _, _, h2, _⟩ := hnum k hlt
      exact h2
    · intro k bs hk
      obtain ⟨hlt, rfl⟩ := hget k bs hk
      obtain ⟨A2, c2, h1, _, h3⟩ := hnum k hlt
      have h0 := (hnum 0 (by omega)).choose_spec.choose_spec.1
      obtain ⟨b, o, sp⟩ := a
      have hs : sp = none := by simpa [Addr.add] using World.cell?_spot h0
      subst hs
      have hb := World.block_lt_of_cell? W _ h1
      rw [Addr.add_lit] at h1 hb
      exact ⟨b, o, A2, c2, rfl, hb, h1, h3⟩
    · intro bs hb
      obtain ⟨k, hk⟩ := List.getElem?_of_mem hb
      obtain ⟨hlt, rfl⟩ := hget k bs hk
      obtain ⟨_, h2, h3, _⟩ := hrow k (by omega)
      rw [List.length_map, hel k hlt]
      exact Nat.le_trans h2 h3
    · rw [hx.1]
      have hb := bulk_map (fun r => Deep.intRow (H := H) .u8 (A' r) (L r) (Z r)) (fun r => if A' r = none then 0 else min (L r) (Z r).length) (fun r => by
        cases hA : A' r with
        | none => simp [Deep.intRow, Rows.uptoBulk]
        | some a' =>
          simp only [Deep.intRow, Rows.uptoBulk]
          have := bulk_len (lits (H := H) .u8 ((Z r).take (L r)))
          simp only [lits, List.length_map, List.length_take] at this
          simp
          simp only [lits] at *
          omega) (List.range n)
      have hsum : ((List.range n).map (fun r => ((Z r).take (L r)).map Int.toNat)).flatten.length = ((List.range n).map (fun r => if A' r = none then 0 else min (L r) (Z r).length)).sum := by
        rw [List.length_flatten, List.map_map]
        congr 1
        apply List.map_congr_left
        intro r hr
        have hrn : r < n := by simpa using hr
        obtain ⟨_, h2, _, h4, _, h6, _⟩ := hrow r (by omega)
        simp only [Function.comp, List.length_map, List.length_take]
        split
        · rename_i hA
          have := h6 hA
          omega
        · rfl
      rw [hsum]
      simp only [Rows.uptoBulk]
      simp only [List.length_range] at hb
      omega
end
end Go.Proofs.Ytbnkmfmbbbcogaa.oc
