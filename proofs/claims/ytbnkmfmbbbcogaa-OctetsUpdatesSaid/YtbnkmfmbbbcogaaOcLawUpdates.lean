/-
  The law OctetsUpdates, walked: both updates answer alike.
-/
import Derived.Test.YtbnkmfmbbbcogaaOcWorks
namespace Go.Proofs.Ytbnkmfmbbbcogaa.oc
open Go.RowKit
theorem walk_octetsUpdates (w : World) (s : Nat) (hs : s < 65536) (o : Nat) (ho : o < 65536) (n : Nat) (hn : n < 65536) :
    Calls Try.prog 6 #[.int .u16 s, .int .u16 o, .int .u16 n] w fun e w' => e = .returned (.bool true) ∧ Below w.heap.size w w' := by
  go_enter Try.func6, Try.ntmps6
  go_wp2_with (first
    | (go_at_call 33; refine (update_any s o n _ hs ho hn).mono ?_; rintro e w' ⟨rfl, rfl⟩)
    | (go_at_call 34; refine (rupdate_any s o n _ hs ho hn).mono ?_; rintro e w' ⟨rfl, rfl⟩)
    | (go_at_call 22; refine (works_any _).mono ?_; rintro e w' ⟨rfl, hb⟩))
  go_ret
  exact ⟨rfl, hb⟩
end Go.Proofs.Ytbnkmfmbbbcogaa.oc
