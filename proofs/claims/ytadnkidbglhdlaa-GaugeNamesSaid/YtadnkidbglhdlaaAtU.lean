/-
  sync/atomic's Uint64, walked by one goroutine.
-/
import Derived.Test.YtadnkidbglhdlaaMzK
import Derived.Test.YtadnkidbglhdlaaProg
import Derived.WalkLawsBesides
import Derived.Laws.LoneSync
import Derived.Outline
import Derived.Lib.Hide
namespace Go.Proofs.Ytadnkidbglhdlaa.at_
open Go.RowKit Go.Proofs.Ytadnkidbglhdlaa.mz
set_option maxRecDepth 100000 in
set_option maxHeartbeats 1000000 in
theorem u64_load (b o : Nat) (v : Int) (w : World) (h : w.cell? ⟨b, o, none⟩ = some (.int .u64 v)) : Calls Try.prog 36 #[.pointer (some ⟨b, o, none⟩)] w fun e w' => e = .returned (.int .u64 v) ∧ w = w' := by
  have hl := run_call_load (P := Try.prog) Try.func45 (by kernel_rfl) (by kernel_rfl) (by kernel_rfl) .u64 (by kernel_rfl) h
  go_enter Try.func36, Try.ntmps36
  go_wp2
  go_ret
  exact ⟨rfl, rfl⟩
set_option maxRecDepth 100000 in
set_option maxHeartbeats 1000000 in
theorem u64_store (b o : Nat) (v n : Int) (w : World) (h : w.cell? ⟨b, o, none⟩ = some (.int .u64 v)) (hf : w.frozen? ⟨b, o, none⟩ = false) : Calls Try.prog 34 #[.pointer (some ⟨b, o, none⟩), .int .u64 n] w fun e w' => e = .returned (.tuple #[]) ∧ w' = w.setCell ⟨b, o, none⟩ (.int .u64 n) := by
  have hl := run_call_store (P := Try.prog) Try.func44 (by kernel_rfl) (by kernel_rfl) (by kernel_rfl) (by kernel_rfl) (k := .u64) (y := n) h hf
  go_enter Try.func34, Try.ntmps34
  go_wp2
  go_end0
  exact ⟨rfl, rfl⟩
set_option maxRecDepth 100000 in
set_option maxHeartbeats 1000000 in
theorem u64_cas (b o : Nat) (v n : Int) (w : World) (h : w.cell? ⟨b, o, none⟩ = some (.int .u64 v)) (hf : w.frozen? ⟨b, o, none⟩ = false) : Calls Try.prog 37 #[.pointer (some ⟨b, o, none⟩), .int .u64 v, .int .u64 n] w fun e w' => e = .returned (.bool true) ∧ w' = w.setCell ⟨b, o, none⟩ (.int .u64 n) := by
  have hl := run_call_cas_hit (P := Try.prog) Try.func46 (by kernel_rfl) (by kernel_rfl) (by kernel_rfl) .u64 (by kernel_rfl) (y := n) h hf
  go_enter Try.func37, Try.ntmps37
  go_wp2
  go_ret
  exact ⟨rfl, rfl⟩
end Go.Proofs.Ytadnkidbglhdlaa.at_
