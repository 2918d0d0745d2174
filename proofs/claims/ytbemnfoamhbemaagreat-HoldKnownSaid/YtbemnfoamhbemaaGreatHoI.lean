/-
  hold at int: of one that New did not make (nil, or empty) each call answers ErrNil, or nothing.
-/
import Derived.Test.YtbemnfoamhbemaaGreatHoS
import Derived.OwnWalk
set_option linter.unusedVariables false
namespace Go.Proofs.YtbemnfoamhbemaaGreat.hoI
open Go.RowKit Go.Proofs.YtbemnfoamhbemaaGreat.oc Go.Proofs.YtbemnfoamhbemaaGreat.mz
theorem ptr_nil (w : World) : (binOp .eql 22 (.pointer none) (.pointer none)).run Tryz.prog w = .ok (.bool true) w := by kernel_rfl
theorem ptr_other (a : Addr) (w : World) : (binOp .neq 22 (.pointer none) (.pointer (some a))).run Tryz.prog w = .ok (.bool true) w := by kernel_rfl
set_option maxRecDepth 100000 in
set_option maxHeartbeats 1000000 in
theorem none_nil (w : World) : Calls Tryz.prog 33 #[.pointer none] w fun r w' => r = .returned (.bool true) ∧ w = w' := by
  have hpn := ptr_nil
  have hpo := ptr_other
  go_enter Tryz.func33, Tryz.ntmps33
  go_wp2
  go_ret
  exact ⟨rfl, rfl⟩
set_option maxRecDepth 100000 in
set_option maxHeartbeats 1000000 in
theorem none_empty (M : Nat) (w : World) (h : w.cell? ⟨M, 0, none⟩ = some (.pointer none)) : Calls Tryz.prog 33 #[.pointer (some ⟨M, 0, none⟩)] w fun r w' => r = .returned (.bool true) ∧ w = w' := by
  have hpn := ptr_nil
  have hpo := ptr_other
  go_enter Tryz.func33, Tryz.ntmps33
  go_wp2
  go_ret
  exact ⟨rfl, rfl⟩
set_option maxRecDepth 100000 in
set_option maxHeartbeats 1000000 in
theorem refused_ (e : Int) (w : World) : Calls Tryz.prog 34 #[.int .i64 e] w fun r w' => r = .returned (.tuple #[.int .i64 0, .int .u64 0, .int .i64 e]) ∧ w = w' := by
  go_enter Tryz.func34, Tryz.ntmps34
  go_wp2
  try simp only [Exit.inBlock, Exit.then]
  refine bodyPost_ret (results_tmp3 rfl _ _ _) rfl ?_
  exact ⟨rfl, rfl⟩
set_option maxRecDepth 100000 in
set_option maxHeartbeats 1000000 in
theorem Now_no (p : Value) (w : World) (HN : Calls Tryz.prog 33 #[p] w fun r w' => r = .returned (.bool true) ∧ w = w') : Calls Tryz.prog 5 #[p, .nilIface] w fun r w' => r = .returned (.tuple #[.int .i64 0, .int .u64 0, .int .i64 1]) ∧ w = w' := by
  have HN := Lib.hid HN
  have HR := Lib.hid (refused_ 1 w)
  go_enter Tryz.func5, Tryz.ntmps5
  go_wp2_with fail
  refine HN.out.mono ?_
  rintro r w' ⟨rfl, rfl⟩
  go_wp2_with fail
  refine HR.out.mono ?_
  rintro r w' ⟨rfl, rfl⟩
  go_wp2
  try rw [Exit.noGoto_ret]
  try simp only [Exit.inBlock, Exit.then]
  refine bodyPost_ret (results_tmp3 rfl _ _ _) rfl ?_
  exact ⟨rfl, rfl⟩
set_option maxRecDepth 100000 in
set_option maxHeartbeats 1000000 in
theorem Enter_no (p : Value) (x : Int) (w : World) (HN : Calls Tryz.prog 33 #[p] w fun r w' => r = .returned (.bool true) ∧ w = w') : Calls Tryz.prog 6 #[p, .nilIface, .int .i64 x] w fun r w' => r = .returned (.tuple #[.int .i64 0, .int .u64 0, .int .i64 1]) ∧ w = w' := by
  have HN := Lib.hid HN
  have HR := Lib.hid (refused_ 1 w)
  go_enter Tryz.func6, Tryz.ntmps6
  go_wp2_with fail
  refine HN.out.mono ?_
  rintro r w' ⟨rfl, rfl⟩
  go_wp2_with fail
  refine HR.out.mono ?_
  rintro r w' ⟨rfl, rfl⟩
  go_wp2
  try rw [Exit.noGoto_ret]
  try simp only [Exit.inBlock, Exit.then]
  refine bodyPost_ret (results_tmp3 rfl _ _ _) rfl ?_
  exact ⟨rfl, rfl⟩
set_option maxRecDepth 100000 in
set_option maxHeartbeats 1000000 in
theorem Put_no (p : Value) (x : Int) (w : World) (HN : Calls Tryz.prog 33 #[p] w fun r w' => r = .returned (.bool true) ∧ w = w') : Calls Tryz.prog 7 #[p, .nilIface, .int .i64 x] w fun r w' => r = .returned (.tuple #[.int .u64 0, .int .i64 1]) ∧ w = w' := by
  have HN := Lib.hid HN
  have HR := Lib.hid (refused_ 1 w)
  go_enter Tryz.func7, Tryz.ntmps7
  go_wp2_with fail
  refine HN.out.mono ?_
  rintro r w' ⟨rfl, rfl⟩
  go_wp2
  try rw [Exit.noGoto_ret]
  go_ret2
  exact ⟨rfl, rfl⟩
set_option maxRecDepth 100000 in
set_option maxHeartbeats 1000000 in
theorem Try_no (p : Value) (v x : Int) (w : World) (HN : Calls Tryz.prog 33 #[p] w fun r w' => r = .returned (.bool true) ∧ w = w') : Calls Tryz.prog 8 #[p, .nilIface, .int .u64 v, .int .i64 x] w fun r w' => r = .returned (.tuple #[.int .u64 0, .bool false, .int .i64 1]) ∧ w = w' := by
  have HN := Lib.hid HN
  have HR := Lib.hid (refused_ 1 w)
  go_enter Tryz.func8, Tryz.ntmps8
  go_wp2_with fail
  refine HN.out.mono ?_
  rintro r w' ⟨rfl, rfl⟩
  go_wp2
  try rw [Exit.noGoto_ret]
  try simp only [Exit.inBlock, Exit.then]
  refine bodyPost_ret (results_tmp3 rfl _ _ _) rfl ?_
  exact ⟨rfl, rfl⟩
set_option maxRecDepth 100000 in
set_option maxHeartbeats 1000000 in
theorem Free_no (p : Value) (w : World) (HN : Calls Tryz.prog 33 #[p] w fun r w' => r = .returned (.bool true) ∧ w = w') : Calls Tryz.prog 9 #[p, .nilIface] w fun r w' => r = .returned (.tuple #[.slice none 0 0, .int .i64 1]) ∧ w = w' := by
  have HN := Lib.hid HN
  have HR := Lib.hid (refused_ 1 w)
  go_enter Tryz.func9, Tryz.ntmps9
  go_wp2_with fail
  refine HN.out.mono ?_
  rintro r w' ⟨rfl, rfl⟩
  go_wp2
  try rw [Exit.noGoto_ret]
  go_ret2
  exact ⟨rfl, rfl⟩
set_option maxRecDepth 100000 in
set_option maxHeartbeats 1000000 in
theorem Leave_no (p : Value) (x : Int) (w : World) (HN : Calls Tryz.prog 33 #[p] w fun r w' => r = .returned (.bool true) ∧ w = w') : Calls Tryz.prog 11 #[p, .nilIface, .int .i64 x] w fun r w' => r = .returned (.int .i64 1) ∧ w = w' := by
  have HN := Lib.hid HN
  have HR := Lib.hid (refused_ 1 w)
  go_enter Tryz.func11, Tryz.ntmps11
  go_wp2_with fail
  refine HN.out.mono ?_
  rintro r w' ⟨rfl, rfl⟩
  go_wp2
  try rw [Exit.noGoto_ret]
  go_ret
  exact ⟨rfl, rfl⟩
set_option maxRecDepth 100000 in
set_option maxHeartbeats 1000000 in
theorem Kept_no (p : Value) (w : World) (HN : Calls Tryz.prog 33 #[p] w fun r w' => r = .returned (.bool true) ∧ w = w') : Calls Tryz.prog 12 #[p] w fun r w' => r = .returned (.slice none 0 0) ∧ w = w' := by
  have HN := Lib.hid HN
  have HR := Lib.hid (refused_ 1 w)
  go_enter Tryz.func12, Tryz.ntmps12
  go_wp2_with fail
  refine HN.out.mono ?_
  rintro r w' ⟨rfl, rfl⟩
  go_wp2
  try rw [Exit.noGoto_ret]
  go_ret
  exact ⟨rfl, rfl⟩
set_option maxRecDepth 100000 in
set_option maxHeartbeats 1000000 in
theorem Old_no (p : Value) (v : Int) (w : World) (HN : Calls Tryz.prog 33 #[p] w fun r w' => r = .returned (.bool true) ∧ w = w') : Calls Tryz.prog 10 #[p, .int .u64 v] w fun r w' => r = .returned (.tuple #[.int .i64 0, .bool false]) ∧ w = w' := by
  have HN := Lib.hid HN
  have HR := Lib.hid (refused_ 1 w)
  go_enter Tryz.func10, Tryz.ntmps10
  go_wp2_with fail
  refine HN.out.mono ?_
  rintro r w' ⟨rfl, rfl⟩
  go_wp2
  try rw [Exit.noGoto_ret]
  go_ret2
  exact ⟨rfl, rfl⟩
end Go.Proofs.YtbemnfoamhbemaaGreat.hoI
