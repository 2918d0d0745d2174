/-
  Words for memory: marks as cells. Nothing of the reference's machine.
-/
import Derived.Test.YtadnkidbglhdlaaMzRow
namespace Go.Proofs.Ytadnkidbglhdlaa.mz
open Go.RowKit Go.Proofs.Ytadnkidbglhdlaa.oc
/-- marks as cells -/
def flat2 : List (Nat × Nat) → List Value
  | [] => []
  | (c, pc) :: r => .int .u8 (c : Int) :: .int .i64 (pc : Int) :: flat2 r
theorem flat2_snoc (l : List (Nat × Nat)) (c pc : Nat) : flat2 (l ++ [(c, pc)]) = flat2 l ++ [.int .u8 (c : Int), .int .i64 (pc : Int)] := by
  induction l with
  | nil => rfl
  | cons x r ih => obtain ⟨a, b⟩ := x; simp [flat2, ih]
def IsMarks (w : World) (B : Nat) (v : Value) (l : List (Nat × Nat)) : Prop := ∃ A cap, v = .slice A l.length cap ∧ Rd w B A (flat2 l)
theorem mark_info : (Try.prog.info? 66).map (fun i => (i.zero, i.size, i.bytes)) = some (some (.agg #[.int .u8 0, .int .i64 0]), 2, 16) := by kernel_rfl
theorem two_one (b c : Int) : ∀ u ∈ [Value.int .u8 b, .int .i64 c], u.oneCell' = true := by
  intro u hu
  simp only [List.mem_cons, List.mem_nil_iff, or_false] at hu
  rcases hu with rfl | rfl <;> rfl
theorem new_two (w : World) (b c : Int) (ty : TypeId) : ∀ (j : Nat) (u : Value), [Value.int .u8 b, .int .i64 c][j]? = some u → (w.alloc (.cells #[.int .u8 b, .int .i64 c] ty)).cell? ((⟨w.heap.size, 0, none⟩ : Addr).add j) = some u := fun j u h => by
  rw [Addr.add_lit, Nat.zero_add]
  exact ((Blk.new w ty #[.int .u8 b, .int .i64 c]).cell j).trans h
theorem flat2_at : ∀ (l : List (Nat × Nat)) (i c pc : Nat), l[i]? = some (c, pc) → (flat2 l)[i * 2]? = some (.int .u8 (c : Int)) ∧ (flat2 l)[i * 2 + 1]? = some (.int .i64 (pc : Int))
  | x :: l, 0, c, pc, h => by simp at h; subst h; exact ⟨rfl, rfl⟩
  | (a, b) :: l, i + 1, c, pc, h => by
    have := flat2_at l i c pc (by simpa using h)
    rw [show (i + 1) * 2 = i * 2 + 1 + 1 from by omega, show i * 2 + 1 + 1 + 1 = (i * 2 + 1) + 1 + 1 from rfl]
    simpa [flat2] using this
  | [], i, c, pc, h => by simp at h
end Go.Proofs.Ytadnkidbglhdlaa.mz
