/-
  gauge: calls on gauges and breakers that are none.
-/
import Derived.Test.YtadnkidbglhdlaaGaM
set_option linter.unusedVariables false
namespace Go.Proofs.Ytadnkidbglhdlaa.ga
open Go.RowKit Go.Proofs.Ytadnkidbglhdlaa.oc Go.Proofs.Ytadnkidbglhdlaa.mz Go.Proofs.Ytadnkidbglhdlaa.at_ Go.Proofs.Ytadnkidbglhdlaa.gt Go.Proofs.Ytadnkidbglhdlaa.gw
/-- one that is none: nil, or not made by its package -/
def Off (w : World) (v : Value) : Prop := v = .pointer none ∨ ∃ E, v = .pointer (some ⟨E, 0, none⟩) ∧ w.cell? ⟨E, 0, none⟩ = some (.pointer none)
set_option maxRecDepth 100000 in
set_option maxHeartbeats 1000000 in
theorem off_b (v : Value) (w : World) (h : Off w v) : Calls Try.prog 27 #[v] w fun e w' => e = .returned (.bool true) ∧ w = w' := by
  rcases h with rfl | ⟨E, rfl, c0⟩
  · have hep : ∀ w : World, (binOp .eql 27 (.pointer none) (.pointer none)).run Try.prog w = .ok (.bool true) w := fun w => by kernel_rfl
    go_enter Try.func27, Try.ntmps27
    go_wp2
    go_ret
    exact ⟨rfl, rfl⟩
  · have hne : ∀ (w : World) (a : Addr), (binOp .neq 27 (.pointer none) (.pointer (some a))).run Try.prog w = .ok (.bool true) w := fun w a => by kernel_rfl
    go_enter Try.func27, Try.ntmps27
    go_wp2
    go_ret
    exact ⟨rfl, rfl⟩
set_option maxRecDepth 100000 in
set_option maxHeartbeats 1000000 in
theorem off_g (v : Value) (w : World) (h : Off w v) : Calls Try.prog 28 #[v] w fun e w' => e = .returned (.bool true) ∧ w = w' := by
  rcases h with rfl | ⟨E, rfl, c0⟩
  · have hep : ∀ w : World, (binOp .eql 23 (.pointer none) (.pointer none)).run Try.prog w = .ok (.bool true) w := fun w => by kernel_rfl
    go_enter Try.func28, Try.ntmps28
    go_wp2
    go_ret
    exact ⟨rfl, rfl⟩
  · have hne : ∀ (w : World) (a : Addr), (binOp .neq 23 (.pointer none) (.pointer (some a))).run Try.prog w = .ok (.bool true) w := fun w a => by kernel_rfl
    go_enter Try.func28, Try.ntmps28
    go_wp2
    go_ret
    exact ⟨rfl, rfl⟩
section
variable (v gv : Value) (w : World)
set_option maxRecDepth 100000 in
set_option maxHeartbeats 1000000 in
theorem off_wrong (now : Int) (h : Off w v) : Calls Try.prog 20 #[v, .int .u64 now] w fun e w' => e = .returned (.int .i64 1) ∧ w = w' := by
  have HN := Lib.hid (off_b v w h)
  clear h
  go_enter Try.func20, Try.ntmps20
  go_wp2_with fail
  refine HN.out.mono ?_
  rintro e w' ⟨rfl, rfl⟩
  go_wp2
  try rw [Exit.noGoto_ret]
  go_ret
  exact ⟨rfl, rfl⟩
set_option maxRecDepth 100000 in
set_option maxHeartbeats 1000000 in
theorem off_ask (now : Int) (h : Off w v) : Calls Try.prog 10 #[v, gv, .int .u64 now] w fun e w' => e = .returned (.tuple #[.bool false, .int .i64 1]) ∧ w = w' := by
  have HN := Lib.hid (off_wrong v w now h)
  clear h
  go_enter Try.func10, Try.ntmps10
  go_wp2_with fail
  refine HN.out.mono ?_
  rintro e w' ⟨rfl, rfl⟩
  go_wp2
  try rw [Exit.noGoto_ret]
  go_ret2
  exact ⟨rfl, rfl⟩
set_option maxRecDepth 100000 in
set_option maxHeartbeats 1000000 in
theorem off_tell (now : Int) (good : Bool) (h : Off w v) : Calls Try.prog 11 #[v, gv, .int .u64 now, .bool good] w fun e w' => e = .returned (.int .i64 1) ∧ w = w' := by
  have HN := Lib.hid (off_wrong v w now h)
  clear h
  go_enter Try.func11, Try.ntmps11
  go_wp2_with fail
  refine HN.out.mono ?_
  rintro e w' ⟨rfl, rfl⟩
  go_wp2
  try rw [Exit.noGoto_ret]
  go_ret
  exact ⟨rfl, rfl⟩
set_option maxRecDepth 100000 in
set_option maxHeartbeats 1000000 in
theorem off_state (h : Off w v) : Calls Try.prog 14 #[v, gv] w fun e w' => e = .returned (.tuple #[.int .i64 0, .int .u64 0, .int .u64 0, .int .i64 1]) ∧ w = w' := by
  have HN := Lib.hid (off_b v w h)
  clear h
  go_enter Try.func14, Try.ntmps14
  go_wp2_with fail
  refine HN.out.mono ?_
  rintro e w' ⟨rfl, rfl⟩
  go_wp2
  try rw [Exit.noGoto_ret]
  refine bodyPost_ret (v := .tuple #[.int .i64 0, .int .u64 0, .int .u64 0, .int .i64 1]) (by simp [results, Try.results14, go_sem]) rfl ?_
  exact ⟨rfl, rfl⟩
set_option maxRecDepth 100000 in
set_option maxHeartbeats 1000000 in
theorem off_enter (h : Off w v) : Calls Try.prog 15 #[v, gv] w fun e w' => e = .returned (.tuple #[.bool false, .int .i64 1]) ∧ w = w' := by
  have HN := Lib.hid (off_g v w h)
  clear h
  go_enter Try.func15, Try.ntmps15
  go_wp2_with fail
  refine HN.out.mono ?_
  rintro e w' ⟨rfl, rfl⟩
  go_wp2
  try rw [Exit.noGoto_ret]
  go_ret2
  exact ⟨rfl, rfl⟩
set_option maxRecDepth 100000 in
set_option maxHeartbeats 1000000 in
theorem off_leave (h : Off w v) : Calls Try.prog 17 #[v, gv] w fun e w' => e = .returned (.int .i64 1) ∧ w = w' := by
  have HN := Lib.hid (off_g v w h)
  clear h
  go_enter Try.func17, Try.ntmps17
  go_wp2_with fail
  refine HN.out.mono ?_
  rintro e w' ⟨rfl, rfl⟩
  go_wp2
  try rw [Exit.noGoto_ret]
  go_ret
  exact ⟨rfl, rfl⟩
set_option maxRecDepth 100000 in
set_option maxHeartbeats 1000000 in
theorem off_get (h : Off w v) : Calls Try.prog 16 #[v, gv] w fun e w' => e = .returned (.tuple #[.int .u64 0, .int .u64 0, .int .i64 1]) ∧ w = w' := by
  have HN := Lib.hid (off_g v w h)
  clear h
  go_enter Try.func16, Try.ntmps16
  go_wp2_with fail
  refine HN.out.mono ?_
  rintro e w' ⟨rfl, rfl⟩
  go_wp2
  try rw [Exit.noGoto_ret]
  go_ret3
  exact ⟨rfl, rfl⟩
end
end Go.Proofs.Ytadnkidbglhdlaa.ga
