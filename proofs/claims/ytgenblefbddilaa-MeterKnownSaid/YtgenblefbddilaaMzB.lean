/-
  Words for the machine's memory: a thread's block.
-/
import Derived.Test.YtgenblefbddilaaMzBase
import Derived.Test.YtgenblefbddilaaOcW
import Derived.Test.YtgenblefbddilaaMzK
namespace Go.Proofs.Ytgenblefbddilaa.mz
open Go.RowKit Go.Proofs.Ytgenblefbddilaa.oc
/-- a thread: its calls, which one, where in it, the registers, what came of the calls, is it over -/
structure Ts where
  calls : Value
  call : Nat
  at_ : Nat
  rs : List Nat
  ans : Value
  over : Bool
def Ts.cells (s : Ts) : List Value := [s.calls, .int .i64 (s.call : Int), .int .i64 (s.at_ : Int)] ++ (u64s s.rs ++ [s.ans, .bool s.over])
/-- block g is that thread -/
structure Thr (w : World) (g : Nat) (s : Ts) : Prop where
  blk : Blk w g 106 s.cells
  len : s.rs.length = 24
  small : ∀ x ∈ s.rs, x < 18446744073709551616
theorem Thr.calls {w : World} {g : Nat} {s : Ts} (h : Thr w g s) : w.cell? ⟨g, 0, none⟩ = some s.calls := by rw [h.blk.cell]; rfl
theorem Thr.call {w : World} {g : Nat} {s : Ts} (h : Thr w g s) : w.cell? ⟨g, 1, none⟩ = some (.int .i64 (s.call : Int)) := by rw [h.blk.cell]; rfl
theorem Thr.at_ {w : World} {g : Nat} {s : Ts} (h : Thr w g s) : w.cell? ⟨g, 2, none⟩ = some (.int .i64 (s.at_ : Int)) := by rw [h.blk.cell]; rfl
theorem Thr.reg {w : World} {g : Nat} {s : Ts} (h : Thr w g s) {i : Nat} (hi : i < 24) : w.cell? ⟨g, 3 + i, none⟩ = some (.int .u64 (mz.reg s.rs i : Int)) := by
  rw [h.blk.cell, Ts.cells, List.getElem?_append_right (by simp)]
  have hl : 3 + i - [s.calls, Value.int .i64 (s.call : Int), Value.int .i64 (s.at_ : Int)].length = i := by simp
  rw [hl, List.getElem?_append_left (by rw [u64s, List.length_map, h.len]; exact hi)]
  have := h.len
  simp [u64s, mz.reg, List.getElem?_map, List.getD_eq_getElem?_getD, List.getElem?_eq_getElem (show i < s.rs.length by omega)]
theorem Thr.ans {w : World} {g : Nat} {s : Ts} (h : Thr w g s) : w.cell? ⟨g, 27, none⟩ = some s.ans := by
  rw [h.blk.cell, Ts.cells, List.getElem?_append_right (by simp), List.getElem?_append_right (by simp [u64s, h.len])]
  simp [u64s, h.len]
theorem Thr.over {w : World} {g : Nat} {s : Ts} (h : Thr w g s) : w.cell? ⟨g, 28, none⟩ = some (.bool s.over) := by
  rw [h.blk.cell, Ts.cells, List.getElem?_append_right (by simp), List.getElem?_append_right (by simp [u64s, h.len])]
  simp [u64s, h.len]
theorem Thr.frozen {w : World} {g : Nat} {s : Ts} (h : Thr w g s) (i : Nat) : w.frozen? ⟨g, i, none⟩ = false := h.blk.frozen i
theorem reg_lt {rs : List Nat} (h : ∀ x ∈ rs, x < 18446744073709551616) (i : Nat) : reg rs i < 18446744073709551616 := by
  unfold reg
  rw [List.getD_eq_getElem?_getD]
  cases e : rs[i]? with
  | none => simp
  | some x => exact h x (List.mem_of_getElem? e)
theorem Thr.keeps {S : Nat → Prop} {w w' : World} {g : Nat} {s : Ts} (h : Thr w g s) (k : Keeps S w w') (hg : ¬ S g) : Thr w' g s := ⟨Blk.keeps h.blk k hg, h.len, h.small⟩
theorem Thr.drew {w : World} {g : Nat} {s : Ts} (h : Thr w g s) : Thr w.drew g s := ⟨h.blk.drew, h.len, h.small⟩
theorem Thr.alloc {w : World} {g : Nat} {s : Ts} (h : Thr w g s) (o : Obj) : Thr (w.alloc o) g s := ⟨h.blk.alloc o, h.len, h.small⟩
theorem cells_set (s : Ts) {a : Nat} (ha : a < s.rs.length) (v : Nat) : s.cells.set (3 + a) (.int .u64 (v : Int)) = ({ s with rs := s.rs.set a v } : Ts).cells := by
  unfold Ts.cells
  have hl : 3 + a - [s.calls, Value.int .i64 (s.call : Int), Value.int .i64 (s.at_ : Int)].length = a := by simp
  rw [List.set_append_right _ _ (by simp), hl, List.set_append_left _ _ (by simpa [u64s] using ha)]
  simp [u64s, List.map_set]
/-- a register is written -/
theorem Thr.put {w : World} {g : Nat} {s : Ts} (h : Thr w g s) {a : Nat} (ha : a < 24) {v : Nat} (hv : v < 18446744073709551616) : Thr (w.setCell ⟨g, 3 + a, none⟩ (.int .u64 (v : Int))) g { s with rs := s.rs.set a v } := by
  refine ⟨?_, by simp [h.len], fun x hx => ?_⟩
  · have := h.blk.put (3 + a) (.int .u64 (v : Int))
    rwa [cells_set s (by rw [h.len]; exact ha)] at this
  · rcases List.mem_or_eq_of_mem_set hx with k | rfl
    · exact h.small x k
    · exact hv
theorem Thr.goto {w : World} {g : Nat} {s : Ts} (h : Thr w g s) (n : Nat) : Thr (w.setCell ⟨g, 2, none⟩ (.int .i64 (n : Int))) g { s with at_ := n } := by
  refine ⟨?_, h.len, h.small⟩
  have := h.blk.put 2 (.int .i64 (n : Int))
  simpa [Ts.cells, List.set] using this
/-- what own begins with: one on; the instruction lies in a block of its own -/
theorem enter_own {w : World} {g : Nat} {s : Ts} (h : Thr w g s) (cs : Array Value) (t : TypeId) :
    ∃ w1, w1 = (w.setCell ⟨g, 2, none⟩ (.int .i64 ((s.at_ : Int) + 1))).alloc (.cells cs t) ∧ Thr w1 g { s with at_ := s.at_ + 1 } ∧ Keeps (· = g) w w1 ∧ (∀ k, w1.cell? ⟨w.heap.size, k, none⟩ = cs[k]?) := by
  have hsz : (w.setCell ⟨g, 2, none⟩ (.int .i64 ((s.at_ : Int) + 1))).heap.size = w.heap.size := by show (w.heap.modify _ _).size = _; simp
  refine ⟨_, rfl, (h.goto (s.at_ + 1)).alloc _, ((Keeps.refl (· = g) w).setCell (p := ⟨g, 2, none⟩) (.inl rfl) _).alloc _, fun k => ?_⟩
  have := (Blk.new (w.setCell ⟨g, 2, none⟩ (.int .i64 ((s.at_ : Int) + 1))) t cs).cell k
  rw [hsz] at this
  rw [this]; simp
end Go.Proofs.Ytgenblefbddilaa.mz
