/-
  sync/atomic's Uint64, walked by one goroutine.
-/
import Derived.Test.YtekglcphdjjmcaaMzK
import Derived.Test.YtekglcphdjjmcaaProg
import Derived.WalkLawsBesides
import Derived.Laws.LoneSync
import Derived.Outline
import Derived.Lib.Hide
namespace Go.Proofs.Ytekglcphdjjmcaa.at_
open Go.RowKit Go.Proofs.Ytekglcphdjjmcaa.mz
set_option maxRecDepth 100000 in
set_option maxHeartbeats 1000000 in
theorem u64_load (b o : Nat) (v : Int) (w : World) (h : w.cell? ⟨b, o, none⟩ = some (.int .u64 v)) : Calls Try.prog 36 #[.pointer (some ⟨b, o, none⟩)] w fun e w' => e = .returned (.int .u64 v) ∧ w = w' := by
  have hl := run_call_load (P := Try.prog) Try.func43 (by kernel_rfl) (by kernel_rfl) (by kernel_rfl) .u64 (by kernel_rfl) h
  go_enter Try.func36, Try.ntmps36
  go_wp2
  go_ret
  exact ⟨rfl, rfl⟩
set_option maxRecDepth 100000 in
set_option maxHeartbeats 1000000 in
theorem u64_add (b o v n : Nat) (w : World) (h : w.cell? ⟨b, o, none⟩ = some (.int .u64 (v : Int))) (hf : w.frozen? ⟨b, o, none⟩ = false) : Calls Try.prog 35 #[.pointer (some ⟨b, o, none⟩), .int .u64 n] w fun e w' => e = .returned (.int .u64 (((v + n) % W64 : Nat) : Int)) ∧ w' = w.setCell ⟨b, o, none⟩ (.int .u64 (((v + n) % W64 : Nat) : Int)) := by
  have hl := run_call_add (P := Try.prog) Try.func42 (by kernel_rfl) (by kernel_rfl) (by kernel_rfl) .u64 (by kernel_rfl) (y := (n : Int)) (s := IntKind.u64.wrap ((v : Int) + (n : Int))) h hf rfl
  rw [wrap_add] at hl
  go_enter Try.func35, Try.ntmps35
  go_wp2
  go_ret
  exact ⟨rfl, rfl⟩
set_option maxRecDepth 100000 in
set_option maxHeartbeats 1000000 in
theorem u64_store (b o : Nat) (v n : Int) (w : World) (h : w.cell? ⟨b, o, none⟩ = some (.int .u64 v)) (hf : w.frozen? ⟨b, o, none⟩ = false) : Calls Try.prog 41 #[.pointer (some ⟨b, o, none⟩), .int .u64 n] w fun e w' => e = .returned (.tuple #[]) ∧ w' = w.setCell ⟨b, o, none⟩ (.int .u64 n) := by
  have hl := run_call_store (P := Try.prog) Try.func45 (by kernel_rfl) (by kernel_rfl) (by kernel_rfl) (by kernel_rfl) (k := .u64) (y := n) h hf
  go_enter Try.func41, Try.ntmps41
  go_wp2
  go_end0
  exact ⟨rfl, rfl⟩
set_option maxRecDepth 100000 in
set_option maxHeartbeats 1000000 in
theorem u64_cas (b o : Nat) (v n : Int) (w : World) (h : w.cell? ⟨b, o, none⟩ = some (.int .u64 v)) (hf : w.frozen? ⟨b, o, none⟩ = false) : Calls Try.prog 44 #[.pointer (some ⟨b, o, none⟩), .int .u64 v, .int .u64 n] w fun e w' => e = .returned (.bool true) ∧ w' = w.setCell ⟨b, o, none⟩ (.int .u64 n) := by
  have hl := run_call_cas_hit (P := Try.prog) Try.func46 (by kernel_rfl) (by kernel_rfl) (by kernel_rfl) .u64 (by kernel_rfl) (y := n) h hf
  go_enter Try.func44, Try.ntmps44
  go_wp2
  go_ret
  exact ⟨rfl, rfl⟩
end Go.Proofs.Ytekglcphdjjmcaa.at_
