/-
  sync/atomic's Uint64, walked by one goroutine.
-/
import Derived.Test.YtakpfkfhbeobeaaMzK
import Derived.Test.YtakpfkfhbeobeaaProg
import Derived.WalkLawsBesides
import Derived.Laws.LoneSync
import Derived.Outline
import Derived.Lib.Hide
namespace Go.Proofs.Ytakpfkfhbeobeaa.at_
open Go.RowKit Go.Proofs.Ytakpfkfhbeobeaa.mz
theorem run_call_swap {P : Program} {f : FuncId} {fn : Func} (hf : P.funcs[f]? = some fn) (hname : (fn.name == "runtime.NumGoroutine") = false) (hb : fn.body.isNone = true) (hn : Extern.findNext fn = none) (k : IntKind)
    (he : Extern.find fn = some (Extern.Atomic.swapT (.int k))) {a : Addr} {x y : Int} {w : World} (hc : w.cell? a = some (.int k x)) (hz : w.frozen? a = false) :
    (callFunc f #[.pointer (some a), .int k y]).run P w = .ok (.value (.int k x)) (w.setCell a (.int k y)) := by
  rw [run_callFunc_extern hf hname hb hn he]
  change (Sem.run P (do
    let a' ← asAddr (.pointer (some a))
    let old ← Extern.Atomic.read (.int k) a'
    store a' (.int k y) .atomic
    pure old) w).andThen _ = _
  simp [Extern.Atomic.read, asAddr, hc, hz, run_store P w a (.int k y) .atomic rfl, Result.andThen]
set_option maxRecDepth 100000 in
set_option maxHeartbeats 1000000 in
theorem u64_load (b o : Nat) (v : Int) (w : World) (h : w.cell? ⟨b, o, none⟩ = some (.int .u64 v)) : Calls Try.prog 44 #[.pointer (some ⟨b, o, none⟩)] w fun e w' => e = .returned (.int .u64 v) ∧ w = w' := by
  have hl := run_call_load (P := Try.prog) Try.func65 (by kernel_rfl) (by kernel_rfl) (by kernel_rfl) .u64 (by kernel_rfl) h
  go_enter Try.func44, Try.ntmps44
  go_wp2
  go_ret
  exact ⟨rfl, rfl⟩
set_option maxRecDepth 100000 in
set_option maxHeartbeats 1000000 in
theorem u64_add (b o v n : Nat) (w : World) (h : w.cell? ⟨b, o, none⟩ = some (.int .u64 (v : Int))) (hf : w.frozen? ⟨b, o, none⟩ = false) : Calls Try.prog 45 #[.pointer (some ⟨b, o, none⟩), .int .u64 n] w fun e w' => e = .returned (.int .u64 (((v + n) % W64 : Nat) : Int)) ∧ w' = w.setCell ⟨b, o, none⟩ (.int .u64 (((v + n) % W64 : Nat) : Int)) := by
  have hl := run_call_add (P := Try.prog) Try.func66 (by kernel_rfl) (by kernel_rfl) (by kernel_rfl) .u64 (by kernel_rfl) (y := (n : Int)) (s := IntKind.u64.wrap ((v : Int) + (n : Int))) h hf rfl
  rw [wrap_add] at hl
  go_enter Try.func45, Try.ntmps45
  go_wp2
  go_ret
  exact ⟨rfl, rfl⟩
set_option maxRecDepth 100000 in
set_option maxHeartbeats 1000000 in
theorem u64_swap (b o : Nat) (v n : Int) (w : World) (h : w.cell? ⟨b, o, none⟩ = some (.int .u64 v)) (hf : w.frozen? ⟨b, o, none⟩ = false) : Calls Try.prog 58 #[.pointer (some ⟨b, o, none⟩), .int .u64 n] w fun e w' => e = .returned (.int .u64 v) ∧ w' = w.setCell ⟨b, o, none⟩ (.int .u64 n) := by
  have hl := run_call_swap (P := Try.prog) Try.func73 (by kernel_rfl) (by kernel_rfl) (by kernel_rfl) .u64 (by kernel_rfl) (y := n) h hf
  go_enter Try.func58, Try.ntmps58
  go_wp2
  go_ret
  exact ⟨rfl, rfl⟩
set_option maxRecDepth 100000 in
set_option maxHeartbeats 1000000 in
theorem u64_store (b o : Nat) (v n : Int) (w : World) (h : w.cell? ⟨b, o, none⟩ = some (.int .u64 v)) (hf : w.frozen? ⟨b, o, none⟩ = false) : Calls Try.prog 40 #[.pointer (some ⟨b, o, none⟩), .int .u64 n] w fun e w' => e = .returned (.tuple #[]) ∧ w' = w.setCell ⟨b, o, none⟩ (.int .u64 n) := by
  have hl := run_call_store (P := Try.prog) Try.func62 (by kernel_rfl) (by kernel_rfl) (by kernel_rfl) (by kernel_rfl) (k := .u64) (y := n) h hf
  go_enter Try.func40, Try.ntmps40
  go_wp2
  go_end0
  exact ⟨rfl, rfl⟩
set_option maxRecDepth 100000 in
set_option maxHeartbeats 1000000 in
theorem u64_cas (b o : Nat) (v n : Int) (w : World) (h : w.cell? ⟨b, o, none⟩ = some (.int .u64 v)) (hf : w.frozen? ⟨b, o, none⟩ = false) : Calls Try.prog 67 #[.pointer (some ⟨b, o, none⟩), .int .u64 v, .int .u64 n] w fun e w' => e = .returned (.bool true) ∧ w' = w.setCell ⟨b, o, none⟩ (.int .u64 n) := by
  have hl := run_call_cas_hit (P := Try.prog) Try.func76 (by kernel_rfl) (by kernel_rfl) (by kernel_rfl) .u64 (by kernel_rfl) (y := n) h hf
  go_enter Try.func67, Try.ntmps67
  go_wp2
  go_ret
  exact ⟨rfl, rfl⟩
end Go.Proofs.Ytakpfkfhbeobeaa.at_
