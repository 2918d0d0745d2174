/-
  Words for memory: numbers, marks as cells; rows of a block of the call's own. Nothing of the reference's machine.
-/
import Derived.Test.YtebjmmckejbklaaMzK
import Derived.Test.YtebjmmckejbklaaMzApp
import Derived.Test.YtebjmmckejbklaaProg
import Derived.WalkLawsBesides
import Derived.Outline
import Derived.Lib.Hide
import Derived.Laws.Rows
namespace Go.Proofs.Ytebjmmckejbklaa.mz
open Go.RowKit Go.Proofs.Ytebjmmckejbklaa.oc
def u64s (l : List Nat) : List Value := l.map (fun x : Nat => Value.int .u64 (x : Int))
theorem u64_one (l : List Nat) : ∀ u ∈ u64s l, u.oneCell' = true := by
  intro u hu
  simp only [u64s, List.mem_map] at hu
  obtain ⟨x, _, rfl⟩ := hu
  rfl
theorem owns_keeps {S : Nat → Prop} {w w' : World} {base : Nat} {e : TypeId} {size : Nat} {v : Value} {n : Nat} {xs : List Value} (h : w.ownsRow base e size v n xs) (k : Keeps S w w') (hs : ∀ b, v.ownBlock = some b → ¬ S b) : w'.ownsRow base e size v n xs := by
  refine ⟨h.1, ?_⟩
  rcases h.2 with hn | ⟨g, cap, cur, rfl, hb, hgg, rest⟩
  · exact .inl hn
  · refine .inr ⟨g, cap, cur, rfl, hb, ?_, rest⟩
    rw [k.block g (Array.getElem?_eq_some_iff.1 hgg).1 (hs g rfl)]
    exact hgg
/-- what F becomes: what is new is in it too -/
def Grown (w w' : World) (F : Nat → Prop) : Nat → Prop := fun b => F b ∨ (w.heap.size ≤ b ∧ b < w'.heap.size)
theorem rd_of_row {w : World} {base n size : Nat} {ty : TypeId} {v : Value} {xs : List Value} (h : w.ownsRow base ty size v n xs) : ∃ A c, v = .slice A n c ∧ Rd w w.heap.size A xs := by
  rcases h.2 with ⟨e, e0⟩ | ⟨g, cap, cur, e, hb, hg, h1, h2, h3, h4⟩
  · refine ⟨none, 0, by rw [e, e0], fun k u hu => ?_⟩
    have : xs = [] := List.eq_nil_of_length_eq_zero (by rw [h.1, e0]; simp)
    rw [this] at hu; simp at hu
  · refine ⟨some ⟨g, 0, none⟩, cap, e, fun k u hu => ⟨g, 0, rfl, (Array.getElem?_eq_some_iff.1 hg).1, ?_⟩⟩
    have := h.cells (g := g) (by rw [e]; rfl) k u hu
    rwa [Addr.add_lit] at this
/-- marks as cells -/
def flat2 : List (Nat × Nat) → List Value
  | [] => []
  | (c, pc) :: r => .int .u8 (c : Int) :: .int .i64 (pc : Int) :: flat2 r
theorem flat2_snoc (l : List (Nat × Nat)) (c pc : Nat) : flat2 (l ++ [(c, pc)]) = flat2 l ++ [.int .u8 (c : Int), .int .i64 (pc : Int)] := by
  induction l with
  | nil => rfl
  | cons x r ih => obtain ⟨a, b⟩ := x; simp [flat2, ih]
def IsMarks (w : World) (B : Nat) (v : Value) (l : List (Nat × Nat)) : Prop := ∃ A cap, v = .slice A l.length cap ∧ Rd w B A (flat2 l)
theorem mark_info : (Try.prog.info? 87).map (fun i => (i.zero, i.size, i.bytes)) = some (some (.agg #[.int .u8 0, .int .i64 0]), 2, 16) := by kernel_rfl
theorem two_one (b c : Int) : ∀ u ∈ [Value.int .u8 b, .int .i64 c], u.oneCell' = true := by
  intro u hu
  simp only [List.mem_cons, List.mem_nil_iff, or_false] at hu
  rcases hu with rfl | rfl <;> rfl
theorem new_two (w : World) (b c : Int) (ty : TypeId) : ∀ (j : Nat) (u : Value), [Value.int .u8 b, .int .i64 c][j]? = some u → (w.alloc (.cells #[.int .u8 b, .int .i64 c] ty)).cell? ((⟨w.heap.size, 0, none⟩ : Addr).add j) = some u := fun j u h => by
  rw [Addr.add_lit, Nat.zero_add]
  exact ((Blk.new w ty #[.int .u8 b, .int .i64 c]).cell j).trans h
theorem u64s_at {l : List Nat} {k x : Nat} (h : l[k]? = some x) : (u64s l)[k]? = some (.int .u64 (x : Int)) := by simp [u64s, h]
theorem flat2_at : ∀ (l : List (Nat × Nat)) (i c pc : Nat), l[i]? = some (c, pc) → (flat2 l)[i * 2]? = some (.int .u8 (c : Int)) ∧ (flat2 l)[i * 2 + 1]? = some (.int .i64 (pc : Int))
  | x :: l, 0, c, pc, h => by simp at h; subst h; exact ⟨rfl, rfl⟩
  | (a, b) :: l, i + 1, c, pc, h => by
    have := flat2_at l i c pc (by simpa using h)
    rw [show (i + 1) * 2 = i * 2 + 1 + 1 from by omega, show i * 2 + 1 + 1 + 1 = (i * 2 + 1) + 1 + 1 from rfl]
    simpa [flat2] using this
  | [], i, c, pc, h => by simp at h
theorem size_alloc (w : World) (o : Obj) : w.heap.size < (w.alloc o).heap.size := by show _ < (w.heap.push _).size; simp
end Go.Proofs.Ytebjmmckejbklaa.mz
