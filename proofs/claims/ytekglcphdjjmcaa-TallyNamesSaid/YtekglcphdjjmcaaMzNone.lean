/-
  Notes that were told nothing.
-/
import Derived.Test.YtekglcphdjjmcaaMzMarks
import Derived.Test.YtekglcphdjjmcaaOcApp
set_option linter.unusedVariables false
namespace Go.Proofs.Ytekglcphdjjmcaa.mz
open Go.RowKit Go.Proofs.Ytekglcphdjjmcaa.oc
set_option maxRecDepth 100000 in
theorem clone_none (w : World) : Calls Try.prog 32 #[.slice none 0 0] w fun e w' => e = .returned (.slice none 0 0) ∧ w = w' := by
  have q48 : ∀ (w : World) (a : Option Addr) (n c n' c' : Nat), (binOp .eql 51 (.slice a n c) (.slice none n' c')).run Try.prog w = .ok (.bool a.isNone) w := fun w a n c n' c' => Lib.run_eql_slice_nil w _ _ a n c n' c' Try.underlying51
  go_enter Try.func32, Try.ntmps32
  go_wp2
  try rw [Exit.noGoto_ret]
  go_ret
  exact ⟨rfl, rfl⟩
set_option maxRecDepth 100000 in
set_option maxHeartbeats 1000000 in
theorem marks_none (N : Nat) (w : World) (F : Nat → Prop) (h : NInv w N [] F) :
    Calls Try.prog 15 #[.pointer (some ⟨N, 0, none⟩)] w fun e w' => e = .returned (.slice none 0 0) ∧ w = w' := by
  obtain ⟨mA, mc, hb, hr0, hf, hnil⟩ := h.at_
  obtain ⟨rfl, rfl⟩ := hnil rfl
  have p0 : w.cell? ⟨N, 0, none⟩ = some (.pointer (some ⟨N, 0, none⟩)) := by rw [hb.cell]; rfl
  have p1 : w.cell? ⟨N, 1, none⟩ = some (.slice none 0 0) := by rw [hb.cell]; rfl
  have hns := notes_self
  have HC := Lib.hid (clone_none w)
  clear hb hr0 hf hnil h
  go_enter Try.func15, Try.ntmps15
  go_wp2_with (go_at_call 32; refine HC.out.mono ?_; rintro e w' ⟨rfl, rfl⟩)
  go_ret
  exact ⟨rfl, rfl⟩
end Go.Proofs.Ytekglcphdjjmcaa.mz
