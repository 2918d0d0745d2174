/-
  Codes in memory: what a builder of a call leaves.
-/
import Derived.Test.YtebjmmckejbklaaMzAlone
import Derived.Test.YtebjmmckejbklaaMzK2
set_option linter.unusedVariables false
namespace Go.Proofs.Ytebjmmckejbklaa.mz
open Go.RowKit Go.Proofs.Ytebjmmckejbklaa.oc
theorem cells_len (x : Ins) : x.cells.length = 7 := rfl
theorem code_at : ∀ (l : List Ins) (i : Nat) (x : Ins) (j : Nat) (u : Value), l[i]? = some x → x.cells[j]? = some u → (l.flatMap Ins.cells)[i * 7 + j]? = some u
  | a :: l, 0, x, j, u, h, hu => by
    simp at h; subst h
    rw [List.flatMap_cons, Nat.zero_mul, Nat.zero_add, List.getElem?_append_left (List.getElem?_eq_some_iff.1 hu).1]
    exact hu
  | a :: l, i + 1, x, j, u, h, hu => by
    rw [List.flatMap_cons, List.getElem?_append_right (by rw [cells_len]; omega), cells_len, show (i + 1) * 7 + j - 7 = i * 7 + j from by omega]
    exact code_at l i x j u (by simpa using h) hu
  | [], i, x, j, u, h, hu => by simp at h
/-- what a builder leaves: the call, its code in a block of its own -/
theorem code_end (w : World) (code : List Ins) (L : Nat) (hl : code.length = L) :
    ((w.alloc (.cells #[.slice (some ⟨w.heap.size + 1, 0, none⟩) L L, .slice none 0 0] 46)).alloc (.cells (code.flatMap Ins.cells).toArray 119)).cell? ⟨w.heap.size, 0, none⟩ = some (.slice (some ⟨w.heap.size + 1, 0, none⟩) L L) ∧ ((w.alloc (.cells #[.slice (some ⟨w.heap.size + 1, 0, none⟩) L L, .slice none 0 0] 46)).alloc (.cells (code.flatMap Ins.cells).toArray 119)).cell? ⟨w.heap.size, 1, none⟩ = some (.slice none 0 0) ∧ (∀ w'', Keeps (fun b => b < w.heap.size) ((w.alloc (.cells #[.slice (some ⟨w.heap.size + 1, 0, none⟩) L L, .slice none 0 0] 46)).alloc (.cells (code.flatMap Ins.cells).toArray 119)) w'' → IsCode w'' w''.heap.size (.slice (some ⟨w.heap.size + 1, 0, none⟩) L L) code) ∧ (∀ S, Keeps S w ((w.alloc (.cells #[.slice (some ⟨w.heap.size + 1, 0, none⟩) L L, .slice none 0 0] 46)).alloc (.cells (code.flatMap Ins.cells).toArray 119))) := by
  have b1 := (Blk.new w 46 #[.slice (some ⟨w.heap.size + 1, 0, none⟩) L L, .slice none 0 0]).alloc (.cells (code.flatMap Ins.cells).toArray 119)
  have b2 := Blk.new (w.alloc (.cells #[.slice (some ⟨w.heap.size + 1, 0, none⟩) L L, .slice none 0 0] 46)) 119 (code.flatMap Ins.cells).toArray
  rw [World.size_alloc] at b2
  refine ⟨by rw [b1.cell]; rfl, by rw [b1.cell]; rfl, fun w'' kk => ?_, fun S => ((Keeps.refl _ w).alloc _).alloc _⟩
  have b3 := Blk.keeps b2 kk (by omega)
  refine ⟨_, L, by rw [hl], fun i x hx => ⟨_, 0, rfl, b3.lt, fun j u hu => ?_⟩⟩
  rw [b3.cell, Nat.zero_add]
  exact code_at code i x j u hx hu
/-- what a builder answers -/
def CallMade (w : World) (code : List Ins) (e : Ending) (w' : World) : Prop := ∃ cv dv, e = .returned (.agg #[cv, dv]) ∧ (∀ w'', Keeps (fun b => b < w.heap.size) w' w'' → IsCode w'' w''.heap.size cv code ∧ IsData w'' w''.heap.size dv []) ∧ (∀ S, Keeps S w w')
theorem stored {w : World} {R : Nat} {t : TypeId} {a b u v : Value} (h : Blk w R t [a, b]) :
    ((w.setCell ⟨R, 0, none⟩ u).setCell ⟨R, 1, none⟩ v).cell? ⟨R, 0, none⟩ = some u ∧ ((w.setCell ⟨R, 0, none⟩ u).setCell ⟨R, 1, none⟩ v).cell? ⟨R, 1, none⟩ = some v ∧ Keeps (· = R) w ((w.setCell ⟨R, 0, none⟩ u).setCell ⟨R, 1, none⟩ v) := by
  have b1 := (h.put 0 u).put 1 v
  exact ⟨by rw [b1.cell]; rfl, by rw [b1.cell]; rfl, (Keeps.here u).trans (Keeps.here v)⟩
end Go.Proofs.Ytebjmmckejbklaa.mz
