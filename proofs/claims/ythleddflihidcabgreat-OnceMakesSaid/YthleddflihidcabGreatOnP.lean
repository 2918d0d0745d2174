/-
  Rows of slots, plainly.
-/
import Derived.Test.YthleddflihidcabGreatOnSlot
import Derived.Laws.MakeOwn
namespace Go.Proofs.YthleddflihidcabGreat.on
open Go.RowKit Go.Proofs.YthleddflihidcabGreat.oc Go.Proofs.YthleddflihidcabGreat.mz
theorem made_rep (v : Value) : ∀ n : Nat, (madeCells (sl 0 0 0 0 0 v 0).toArray (n * 9)).toList = (List.replicate n (sl 0 0 0 0 0 v 0)).flatten := by
  intro n
  induction n with
  | zero => simp [madeCells]
  | succ n ih =>
    have e : (n + 1) * 9 = 9 + n * 9 := by omega
    have hf : ∀ m, (madeCells (sl 0 0 0 0 0 v 0).toArray m).toList = (List.range m).map (fun j => (sl 0 0 0 0 0 v 0).toArray[j % 9]!) := fun m => by
      simp [madeCells, sl]
    rw [hf] at ih ⊢
    rw [e, List.range_add, List.map_append, List.map_map, List.replicate_succ, List.flatten_cons, ← ih]
    congr 1
    apply List.map_congr_left
    intro j _
    simp [Function.comp, Nat.add_mod_left]
/-- n slots, of which the first k have begun -/
def rowOf (v : Value) (n k : Nat) : List Value := (List.replicate k (sl 0 0 0 4294967296 0 v 0)).flatten ++ (List.replicate (n - k) (sl 0 0 0 0 0 v 0)).flatten
theorem rowOf_at (v : Value) (n k : Nat) (h : k < n) : rowOf v n k = (List.replicate k (sl 0 0 0 4294967296 0 v 0)).flatten ++ (sl 0 0 0 0 0 v 0 ++ (List.replicate (n - k - 1) (sl 0 0 0 0 0 v 0)).flatten) := by
  have e : n - k = (n - k - 1) + 1 := by omega
  unfold rowOf
  rw [e, List.replicate_succ, List.flatten_cons]
  rfl
theorem rowOf_succ (v : Value) (n k : Nat) : rowOf v n (k + 1) = (List.replicate k (sl 0 0 0 4294967296 0 v 0)).flatten ++ (sl 0 0 0 4294967296 0 v 0 ++ (List.replicate (n - k - 1) (sl 0 0 0 0 0 v 0)).flatten) := by
  unfold rowOf
  rw [List.replicate_succ', List.flatten_append, List.append_assoc]
  simp [Nat.sub_sub]
theorem begun_len (v : Value) (k : Nat) : (List.replicate k (sl 0 0 0 4294967296 0 v 0)).flatten.length = k * 9 := by
  simp [sl]
end Go.Proofs.YthleddflihidcabGreat.on
