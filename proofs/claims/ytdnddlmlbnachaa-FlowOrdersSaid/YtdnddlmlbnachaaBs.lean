/-
  A slice literal of aggregates of many cells. Nothing of the program's functions.
-/
import Derived.Test.YtdnddlmlbnachaaMzRow
import Derived.Great.BuildSlice
set_option linter.unusedVariables false
namespace Go.Proofs.Ytdnddlmlbnachaa.bs
open Go.RowKit Go.Proofs.Ytdnddlmlbnachaa.oc Go.Proofs.Ytdnddlmlbnachaa.mz
theorem fold_list (off : Nat) : ∀ (l : List Value) (s : Nat) (cs : Array Value), off + s + l.length ≤ cs.size → ((l.zipIdx s).foldl (fun cs x => cs.setIfInBounds (off + x.2) x.1) cs).toList = cs.toList.take (off + s) ++ l ++ cs.toList.drop (off + s + l.length)
  | [], s, cs, h => by simp
  | c :: r, s, cs, h => by
    have hlt : off + s < cs.toList.length := by simp at h ⊢; omega
    have ih := fold_list off r (s + 1) (cs.setIfInBounds (off + s) c) (by simp at h ⊢; omega)
    rw [List.zipIdx_cons, List.foldl_cons]
    rw [ih, Array.toList_setIfInBounds, show off + (s + 1) = (off + s) + 1 from by omega, List.take_add_one, List.take_set_of_le (by omega), List.drop_set_of_lt (by omega), List.getElem?_set_self hlt]
    simp only [Option.toList_some, List.append_assoc, List.cons_append, List.nil_append, List.length_cons]
    rw [show off + s + 1 + r.length = off + s + (r.length + 1) from by omega]
theorem fold_arr (off : Nat) (y : Array Value) (cs : Array Value) (h : off + y.size ≤ cs.size) : y.zipIdx.foldl (fun cs (x : Value × Nat) => cs.setIfInBounds (off + x.2) x.1) cs = (cs.toList.take off ++ y.toList ++ cs.toList.drop (off + y.size)).toArray := by
  apply Array.toList_inj.1
  have := fold_list off y.toList 0 cs (by simpa using h)
  rw [← Array.foldl_toList, Array.toList_zipIdx]
  simpa using this
theorem fill_step (place : Nat → Option (Nat × Nat)) (base : Array Value) (i : Nat) (y : Array Value) (rest : List (Nat × Value)) (off size : Nat) (hp : place i = some (off, size)) (hy : y.size = size) (ho : off + size ≤ base.size) :
    Instr.fill place base ((i, .agg y) :: rest) = Instr.fill place (base.toList.take off ++ y.toList ++ base.toList.drop (off + y.size)).toArray rest := by
  have h := fold_arr off y base (by omega)
  rw [Instr.fill, hp]
  have hc : ¬ ((decide ((Value.agg y).cells.size ≠ size) || decide (off + (Value.agg y).cells.size > base.size)) = true) := by
    simp only [Value.cells, hy]
    simp
    omega
  simp only
  rw [if_neg hc]
  show Instr.fill place (y.zipIdx.foldl (fun cs (x : Value × Nat) => cs.setIfInBounds (off + x.2) x.1) base) rest = _
  rw [h]
theorem fill_one (y base : Array Value) (n : Nat) (hy : y.size = n) (hb : base.size = n) : Instr.fill (fun i => some (i * n, n)) base [(0, .agg y)] = some y := by
  rw [fill_step _ base 0 y [] (0 * n) n rfl hy (by omega)]
  unfold Instr.fill
  congr 1
  apply Array.toList_inj.1
  have e : base.toList.drop (0 * n + y.size) = [] := List.drop_eq_nil_of_le (by simp; omega)
  rw [e, Nat.zero_mul]
  simp
theorem fill_two (y z base : Array Value) (n : Nat) (hy : y.size = n) (hz : z.size = n) (hb : base.size = 2 * n) : Instr.fill (fun i => some (i * n, n)) base [(0, .agg y), (1, .agg z)] = some (y ++ z) := by
  rw [fill_step _ base 0 y _ (0 * n) n rfl hy (by omega)]
  have hyl : y.toList.length = n := by simpa using hy
  have hsz : (base.toList.take (0 * n) ++ y.toList ++ base.toList.drop (0 * n + y.size)).toArray.size = 2 * n := by simp; omega
  rw [fill_step _ _ 1 z [] (1 * n) n rfl hz (by rw [hsz]; omega)]
  unfold Instr.fill
  congr 1
  apply Array.toList_inj.1
  have e1 : (y.toList ++ base.toList.drop (0 * n + y.size)).take (1 * n) = y.toList := by rw [List.take_append_of_le_length (by omega), List.take_of_length_le (by omega)]
  have e2 : (y.toList ++ base.toList.drop (0 * n + y.size)).drop (1 * n + z.size) = [] := List.drop_eq_nil_of_le (by simp; omega)
  simp only [Nat.zero_mul, List.take_zero, List.nil_append]
  rw [Nat.zero_mul] at e1 e2
  rw [e1, e2, List.append_nil, Array.toList_append]
theorem range_size (k : Nat) (z : Array Value) : ((Array.range k).map (z[· % z.size]!)).size = k := by simp
end Go.Proofs.Ytdnddlmlbnachaa.bs
