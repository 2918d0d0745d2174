/-
  gates.Tell under a gate of notes, or none.
-/
import Derived.Test.YtadnkidbglhdlaaMzK2
import Derived.Test.YtadnkidbglhdlaaMzMarks
namespace Go.Proofs.Ytadnkidbglhdlaa.gt
open Go.RowKit Go.Proofs.Ytadnkidbglhdlaa.oc Go.Proofs.Ytadnkidbglhdlaa.mz
/-- a gate: none, or the notes at N, told ms -/
def Gate (w : World) (gv : Value) (N : Nat) (ms : List (Nat × Nat)) : Prop := gv = .nilIface ∨ (gv = .iface 31 (.pointer (some ⟨N, 0, none⟩)) ∧ ∃ F, NInv w N ms F)
theorem Gate.nil_ (w : World) (N : Nat) (ms : List (Nat × Nat)) : Gate w .nilIface N ms := .inl rfl
theorem Gate.keeps {w w' : World} {gv : Value} {N : Nat} {ms : List (Nat × Nat)} {S : Nat → Prop} (h : Gate w gv N ms) (k : Keeps S w w') (hs : ∀ b, N ≤ b → ¬ S b) : Gate w' gv N ms := by
  rcases h with h | ⟨e, F, h⟩
  · exact .inl h
  · exact .inr ⟨e, F, h.keeps k (fun b hb => hs b (h.above b hb).1)⟩
theorem method_step (k : Nat) (a : Addr) (w : World) : (method (k + 1) 31 (.pointer (some a)) "Step").run Try.prog w = .ok (63, .pointer (some a)) w := by kernel_rfl
set_option maxRecDepth 100000 in
set_option maxHeartbeats 1000000 in
theorem tell_nil (op x : Int) (w : World) : Calls Try.prog 35 #[.nilIface, .int .u8 op, .int .i64 x] w fun e w' => e = .returned (.tuple #[]) ∧ w = w' := by
  go_enter Try.func35, Try.ntmps35
  go_wp2
  go_end0
  exact ⟨rfl, rfl⟩
set_option maxRecDepth 100000 in
set_option maxHeartbeats 1000000 in
theorem tell_notes (N op x : Nat) (w : World) (ms : List (Nat × Nat)) (F : Nat → Prop) (h : NInv w N ms F) (hl : ms.length < 1000000) :
    Calls Try.prog 35 #[.iface 31 (.pointer (some ⟨N, 0, none⟩)), .int .u8 op, .int .i64 (x : Int)] w fun e w' => e = .returned (.tuple #[]) ∧ NInv w' N (ms ++ [(op, x)]) (Grown w w' F) ∧ Keeps F w w' := by
  have HS := Lib.hid (step_notes N op x w ms F h hl)
  clear h
  have hm := fun (k : Nat) (a : Addr) (w : World) => method_step k a w
  go_enter Try.func35, Try.ntmps35
  go_wp2_with (go_at_call 63; refine HS.out.mono ?_; rintro e w' ⟨rfl, h1, h2⟩; have H1 := Lib.hid h1; have H2 := Lib.hid h2; clear h1 h2)
  go_end0
  exact ⟨rfl, H1.out, H2.out⟩
theorem gate_tell (gv : Value) (op x N : Nat) (w : World) (ms : List (Nat × Nat)) (h : Gate w gv N ms) (hl : ms.length < 1000000) :
    Calls Try.prog 35 #[gv, .int .u8 op, .int .i64 (x : Int)] w fun e w' => e = .returned (.tuple #[]) ∧ Gate w' gv N (ms ++ [(op, x)]) ∧ Keeps (fun b => N ≤ b) w w' := by
  rcases h with rfl | ⟨rfl, F, h⟩
  · refine (tell_nil op x w).mono ?_
    rintro e w' ⟨rfl, rfl⟩
    exact ⟨rfl, .inl rfl, Keeps.refl _ _⟩
  · refine (tell_notes N op x w ms F h hl).mono ?_
    rintro e w' ⟨rfl, h1, h2⟩
    exact ⟨rfl, .inr ⟨rfl, _, h1⟩, h2.mono (fun b _ z => (h.above b z).1)⟩
end Go.Proofs.Ytadnkidbglhdlaa.gt
