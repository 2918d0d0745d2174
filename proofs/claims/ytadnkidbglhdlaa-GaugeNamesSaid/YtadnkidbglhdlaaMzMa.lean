/-
  Notes' marks, few or none.
-/
import Derived.Test.YtadnkidbglhdlaaMzMarks
set_option linter.unusedVariables false
namespace Go.Proofs.Ytadnkidbglhdlaa.mz
open Go.RowKit Go.Proofs.Ytadnkidbglhdlaa.oc
set_option maxRecDepth 100000 in
set_option maxHeartbeats 1000000 in
theorem clone_none (w : World) : Calls Try.prog 26 #[.slice none 0 0] w fun e w' => e = .returned (.slice none 0 0) ∧ w = w' := by
  have q48 : ∀ (w : World) (a : Option Addr) (n c n' c' : Nat), (binOp .eql 36 (.slice a n c) (.slice none n' c')).run Try.prog w = .ok (.bool a.isNone) w := fun w a n c n' c' => Lib.run_eql_slice_nil w _ _ a n c n' c' Try.underlying36
  go_enter Try.func26, Try.ntmps26
  go_wp2
  try rw [Exit.noGoto_ret]
  go_ret
  exact ⟨rfl, rfl⟩
set_option maxRecDepth 100000 in
set_option maxHeartbeats 1000000 in
theorem marks_none (N : Nat) (w : World) (F : Nat → Prop) (h : NInv w N [] F) :
    Calls Try.prog 12 #[.pointer (some ⟨N, 0, none⟩)] w fun e w' => e = .returned (.slice none 0 0) ∧ w = w' := by
  obtain ⟨mA, mc, hb, hr0, hf, hnil⟩ := h.at_
  obtain ⟨rfl, rfl⟩ := hnil rfl
  have p0 : w.cell? ⟨N, 0, none⟩ = some (.pointer (some ⟨N, 0, none⟩)) := by rw [hb.cell]; rfl
  have p1 : w.cell? ⟨N, 1, none⟩ = some (.slice none 0 0) := by rw [hb.cell]; rfl
  have hns := notes_self
  have HC := Lib.hid (clone_none w)
  clear hb hr0 hf hnil h
  go_enter Try.func12, Try.ntmps12
  go_wp2_with (go_at_call 26; refine HC.out.mono ?_; rintro e w' ⟨rfl, rfl⟩)
  go_ret
  exact ⟨rfl, rfl⟩
/-- the marks, few or none -/
theorem marks_any (N : Nat) (w : World) (ms : List (Nat × Nat)) (F : Nat → Prop) (h : NInv w N ms F) (hl : ms.length < 1000000) :
    Calls Try.prog 12 #[.pointer (some ⟨N, 0, none⟩)] w fun e w' => ∃ A' c', e = .returned (.slice A' ms.length c') ∧ IsMarks w' w'.heap.size (.slice A' ms.length c') ms ∧ ∀ S, Keeps S w w' := by
  by_cases hm : ms = []
  · subst hm
    refine (marks_none N w F h).mono ?_
    rintro e w' ⟨rfl, rfl⟩
    exact ⟨none, 0, rfl, ⟨none, 0, rfl, fun k u hk => by simp [flat2] at hk⟩, fun S => Keeps.refl S w⟩
  · exact marks_notes N w ms F h hl hm
end Go.Proofs.Ytadnkidbglhdlaa.mz
