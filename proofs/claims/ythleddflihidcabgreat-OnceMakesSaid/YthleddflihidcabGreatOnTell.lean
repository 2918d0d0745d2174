/-
  gates.Tell under notes.
-/
import Derived.Test.YthleddflihidcabGreatMzMarks
import Derived.Test.YthleddflihidcabGreatOnSlot
namespace Go.Proofs.YthleddflihidcabGreat.on
open Go.RowKit Go.Proofs.YthleddflihidcabGreat.oc Go.Proofs.YthleddflihidcabGreat.mz
theorem method_step (k : Nat) (a : Addr) (w : World) : (method (k + 1) 41 (.pointer (some a)) "Step").run Tryz.prog w = .ok (128, .pointer (some a)) w := by kernel_rfl
set_option maxRecDepth 100000 in
set_option maxHeartbeats 1000000 in
theorem tell_notes (N op x : Nat) (w : World) (ms : List (Nat × Nat)) (F : Nat → Prop) (h : NInv w N ms F) (hl : ms.length < 1000000) :
    Calls Tryz.prog 38 #[.iface 41 (.pointer (some ⟨N, 0, none⟩)), .int .u8 op, .int .i64 (x : Int)] w fun e w' => e = .returned (.tuple #[]) ∧ NInv w' N (ms ++ [(op, x)]) (Grown w w' F) ∧ Keeps F w w' := by
  have HS := Lib.hid (step_notes N op x w ms F h hl)
  clear h
  have hm := fun (k : Nat) (a : Addr) (w : World) => method_step k a w
  go_enter Tryz.func38, Tryz.ntmps38
  go_wp2_with (go_at_call 128; refine HS.out.mono ?_; rintro e w' ⟨rfl, h1, h2⟩; have H1 := Lib.hid h1; have H2 := Lib.hid h2; clear h1 h2)
  go_end0
  exact ⟨rfl, H1.out, H2.out⟩
end Go.Proofs.YthleddflihidcabGreat.on
