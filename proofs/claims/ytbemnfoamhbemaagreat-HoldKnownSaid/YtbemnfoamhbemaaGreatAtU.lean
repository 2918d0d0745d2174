/-
  sync/atomic's Uint64, walked by one goroutine.
-/
import Derived.Test.YtbemnfoamhbemaaGreatMzK
import Derived.Test.YtbemnfoamhbemaaGreatProg
import Derived.WalkLawsBesides
import Derived.Laws.LoneSync
import Derived.Outline
import Derived.Lib.Hide
namespace Go.Proofs.YtbemnfoamhbemaaGreat.at_
open Go.RowKit Go.Proofs.YtbemnfoamhbemaaGreat.mz
set_option maxRecDepth 100000 in
set_option maxHeartbeats 1000000 in
theorem u64_load (b o : Nat) (v : Int) (w : World) (h : w.cell? ⟨b, o, none⟩ = some (.int .u64 v)) : Calls Tryz.prog 114 #[.pointer (some ⟨b, o, none⟩)] w fun e w' => e = .returned (.int .u64 v) ∧ w = w' := by
  have hl := run_call_load (P := Tryz.prog) Tryz.func137 (by kernel_rfl) (by kernel_rfl) (by kernel_rfl) .u64 (by kernel_rfl) h
  go_enter Tryz.func114, Tryz.ntmps114
  go_wp2
  go_ret
  exact ⟨rfl, rfl⟩
set_option maxRecDepth 100000 in
set_option maxHeartbeats 1000000 in
theorem u64_store (b o : Nat) (v n : Int) (w : World) (h : w.cell? ⟨b, o, none⟩ = some (.int .u64 v)) (hf : w.frozen? ⟨b, o, none⟩ = false) : Calls Tryz.prog 91 #[.pointer (some ⟨b, o, none⟩), .int .u64 n] w fun e w' => e = .returned (.tuple #[]) ∧ w' = w.setCell ⟨b, o, none⟩ (.int .u64 n) := by
  have hl := run_call_store (P := Tryz.prog) Tryz.func124 (by kernel_rfl) (by kernel_rfl) (by kernel_rfl) (by kernel_rfl) (k := .u64) (y := n) h hf
  go_enter Tryz.func91, Tryz.ntmps91
  go_wp2
  go_end0
  exact ⟨rfl, rfl⟩
set_option maxRecDepth 100000 in
set_option maxHeartbeats 1000000 in
theorem u64_cas (b o : Nat) (v n : Int) (w : World) (h : w.cell? ⟨b, o, none⟩ = some (.int .u64 v)) (hf : w.frozen? ⟨b, o, none⟩ = false) : Calls Tryz.prog 84 #[.pointer (some ⟨b, o, none⟩), .int .u64 v, .int .u64 n] w fun e w' => e = .returned (.bool true) ∧ w' = w.setCell ⟨b, o, none⟩ (.int .u64 n) := by
  have hl := run_call_cas_hit (P := Tryz.prog) Tryz.func117 (by kernel_rfl) (by kernel_rfl) (by kernel_rfl) .u64 (by kernel_rfl) (y := n) h hf
  go_enter Tryz.func84, Tryz.ntmps84
  go_wp2
  go_ret
  exact ⟨rfl, rfl⟩
end Go.Proofs.YtbemnfoamhbemaaGreat.at_
