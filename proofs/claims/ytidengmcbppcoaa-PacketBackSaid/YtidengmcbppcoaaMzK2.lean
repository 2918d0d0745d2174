/-
  Words for memory, on: single cells under Keeps. Nothing of the program's functions.
-/
import Derived.Test.YtidengmcbppcoaaMzK
namespace Go.Proofs.Ytidengmcbppcoaa.mz
open Go.RowKit Go.Proofs.Ytidengmcbppcoaa.oc
theorem Keeps.here {w : World} {b i : Nat} (u : Value) : Keeps (· = b) w (w.setCell ⟨b, i, none⟩ u) := (Keeps.refl (· = b) w).setCell (p := ⟨b, i, none⟩) (.inl rfl) u
theorem Keeps.cell {S : Nat → Prop} {w w' : World} (k : Keeps S w w') {b i : Nat} {v : Value} (h : w.cell? ⟨b, i, none⟩ = some v) (hb : ¬ S b) : w'.cell? ⟨b, i, none⟩ = some v := by
  have hl : b < w.heap.size := by
    rcases Nat.lt_or_ge b w.heap.size with q | q
    · exact q
    · exfalso
      simp [World.cell?, Array.getElem?_eq_none q] at h
  have := k.block b hl hb
  simp only [World.cell?] at h ⊢
  rw [this]; exact h
theorem Keeps.lt_cell {w : World} {b i : Nat} {v : Value} (h : w.cell? ⟨b, i, none⟩ = some v) : b < w.heap.size := by
  rcases Nat.lt_or_ge b w.heap.size with q | q
  · exact q
  · exfalso
    simp [World.cell?, Array.getElem?_eq_none q] at h
theorem alloc_cell {w : World} {o : Obj} {b i : Nat} {v : Value} (h : w.cell? ⟨b, i, none⟩ = some v) : (w.alloc o).cell? ⟨b, i, none⟩ = some v := Keeps.cell ((Keeps.refl (fun _ => False) w).alloc o) h (fun z => z)
theorem two_cell {w : World} {R b i j k : Nat} {v u1 u2 : Value} (h : w.cell? ⟨b, i, none⟩ = some v) (hb : b ≠ R) : ((w.setCell ⟨R, j, none⟩ u1).setCell ⟨R, k, none⟩ u2).cell? ⟨b, i, none⟩ = some v := Keeps.cell ((Keeps.here (b := R) u1).trans (Keeps.here u2)) h hb
/-- an append's step, in the frame's word -/
theorem Keeps.of_grown {w w' : World} {r : Option Nat} (h : w.grownBy w' r) : Keeps (fun b => r = some b) w w' :=
  ⟨h.size, fun b hb hs => h.block b hb (fun e => hs e.symm), h.os, h.tape, h.output⟩
theorem Keeps.only {S : Nat → Prop} {w w' : World} (k : Keeps S w w') (hs : ∀ b, S b → w.heap.size ≤ b) : Keeps (fun _ => False) w w' := k.mono (fun b hb z => by have := hs b z; omega)
end Go.Proofs.Ytidengmcbppcoaa.mz
