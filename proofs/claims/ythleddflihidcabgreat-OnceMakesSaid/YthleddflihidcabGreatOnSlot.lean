/-
  once's slots as cells; what does not hang on the value's type.
-/
import Derived.Test.YthleddflihidcabGreatOnMu
import Derived.RegionTactic
import Derived.RegionCalls
import Derived.Recover
import Derived.StillTailTactics
set_option linter.unusedVariables false
namespace Go.Proofs.YthleddflihidcabGreat.on
open Go.RowKit Go.Proofs.YthleddflihidcabGreat.oc Go.Proofs.YthleddflihidcabGreat.mz Go.Proofs.YthleddflihidcabGreat.at_
/-- a slot's cells: its state, the Once (done, its lock), the group, where make has led, the value, the number -/
def sl (st dn mu wg en : Int) (v : Value) (num : Int) : List Value := [.int .u64 st, .int .u32 dn, .int .i32 mu, .int .u32 0, .int .u64 wg, .int .u32 0, .int .u64 en, v, .int .i64 num]
/-- at ⟨b, o⟩ lie the cells cs -/
structure Slot (w : World) (b o : Nat) (T : TypeId) (pre post cs : List Value) : Prop where
  blk : Blk w b T (pre ++ (cs ++ post))
  len : pre.length = o
section
variable {w w' : World} {b o : Nat} {T : TypeId} {pre post cs : List Value}
theorem Slot.cell (h : Slot w b o T pre post cs) {k : Nat} (hk : k < cs.length) : w.cell? ⟨b, o + k, none⟩ = cs[k]? := by
  rw [h.blk.cell, List.getElem?_append_right (by rw [h.len]; omega), h.len, Nat.add_sub_cancel_left, List.getElem?_append_left hk]
theorem Slot.cell0 (h : Slot w b o T pre post cs) (hk : 0 < cs.length) : w.cell? ⟨b, o, none⟩ = cs[0]? := h.cell (k := 0) hk
theorem Slot.frozen (h : Slot w b o T pre post cs) (k : Nat) : w.frozen? ⟨b, k, none⟩ = false := h.blk.frozen k
theorem Slot.put (h : Slot w b o T pre post cs) {k : Nat} (hk : k < cs.length) (u : Value) : Slot (w.setCell ⟨b, o + k, none⟩ u) b o T pre post (cs.set k u) := by
  refine ⟨?_, h.len⟩
  have := h.blk.put (o + k) u
  rwa [List.set_append_right _ _ (by rw [h.len]; omega), h.len, Nat.add_sub_cancel_left, List.set_append_left _ _ hk] at this
theorem Slot.put0 (h : Slot w b o T pre post cs) (hk : 0 < cs.length) (u : Value) : Slot (w.setCell ⟨b, o, none⟩ u) b o T pre post (cs.set 0 u) := h.put (k := 0) hk u
theorem Slot.drewN (h : Slot w b o T pre post cs) (n : Nat) : Slot (w.drewN n) b o T pre post cs := ⟨h.blk.drewN n, h.len⟩
theorem Slot.lt (h : Slot w b o T pre post cs) : b < w.heap.size := h.blk.lt
theorem Slot.keeps {S : Nat → Prop} (h : Slot w b o T pre post cs) (k : Keeps S w w') (hg : ¬ S b) : Slot w' b o T pre post cs := ⟨Blk.keeps h.blk k hg, h.len⟩
end
theorem Keeps.here {w : World} {b i : Nat} (u : Value) : Keeps (· = b) w (w.setCell ⟨b, i, none⟩ u) := (Keeps.refl (· = b) w).setCell (p := ⟨b, i, none⟩) (.inl rfl) u
theorem Keeps.cell {S : Nat → Prop} {w w' : World} (k : Keeps S w w') {b i : Nat} {v : Value} (h : w.cell? ⟨b, i, none⟩ = some v) (hb : ¬ S b) : w'.cell? ⟨b, i, none⟩ = some v := by
  have hl : b < w.heap.size := by
    rcases Nat.lt_or_ge b w.heap.size with q | q
    · exact q
    · exfalso
      simp [World.cell?, Array.getElem?_eq_none q] at h
  have := k.block b hl hb
  simp only [World.cell?] at h ⊢
  rw [this]; exact h
theorem Keeps.lt_cell {w : World} {b i : Nat} {v : Value} (h : w.cell? ⟨b, i, none⟩ = some v) : b < w.heap.size := by
  rcases Nat.lt_or_ge b w.heap.size with q | q
  · exact q
  · exfalso
    simp [World.cell?, Array.getElem?_eq_none q] at h
set_option maxRecDepth 100000 in
set_option maxHeartbeats 1000000 in
theorem tell_nil (op x : Int) (w : World) : Calls Tryz.prog 38 #[.nilIface, .int .u8 op, .int .i64 x] w fun e w' => e = .returned (.tuple #[]) ∧ w = w' := by
  go_enter Tryz.func38, Tryz.ntmps38
  go_wp2
  go_end0
  exact ⟨rfl, rfl⟩
theorem flag_store (b o : Nat) (x : Value) (u : FrameMode) (w : World) (hc : w.cell? ⟨b, o, none⟩ = some x) (hz : w.frozen? ⟨b, o, none⟩ = false) :
    CallsD Tryz.prog 93 #[.pointer (some ⟨b, o, none⟩), .bool true] u w fun e u' w' => u' = u ∧ (e = .returned (.tuple #[]) ∧ w' = w.drew.setCell ⟨b, o, none⟩ (.int .u32 1)) := by
  have hc' : w.drew.cell? ⟨b, o, none⟩ = some x := by go_simp
  have hz' : w.drew.frozen? ⟨b, o, none⟩ = false := by go_simp
  have hst := run_call_store (P := Tryz.prog) Tryz.func98 (by kernel_rfl) (by kernel_rfl) (by kernel_rfl) (by kernel_rfl) (k := .u32) (y := 1) hc' hz'
  go_enter_d Tryz.func93, Tryz.ntmps93
  go_wp2
  go_region_calls
  all_goals (go_end0; exact ⟨rfl, rfl⟩)
end Go.Proofs.YthleddflihidcabGreat.on
