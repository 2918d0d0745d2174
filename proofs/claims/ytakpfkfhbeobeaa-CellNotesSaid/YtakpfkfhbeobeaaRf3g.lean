/-
  patchbayref03's codes in memory.
-/
import Derived.Test.YtakpfkfhbeobeaaRf3
import Derived.Test.YtakpfkfhbeobeaaMzBuilt
import Derived.Test.YtakpfkfhbeobeaaMzApp
set_option linter.unusedVariables false
namespace Go.Proofs.Ytakpfkfhbeobeaa.rf3
open Go.RowKit Go.Proofs.Ytakpfkfhbeobeaa.oc Go.Proofs.Ytakpfkfhbeobeaa.mz
set_option maxRecDepth 100000 in
set_option maxHeartbeats 4000000 in
theorem get0_code (w : World) : Calls Try.prog 27 #[.int .i64 0] w (CallMade w (getCode 0)) := by
  go_enter Try.func27, Try.ntmps27
  go_wp2
  change bodyPost Try.prog _ _ Exit.ret _ ((w.alloc (.cells #[.slice (some ⟨w.heap.size + 1, 0, none⟩) 2 2, .slice none 0 0] 53)).alloc (.cells ((getCode 0).flatMap Ins.cells).toArray 140))
  obtain ⟨r0, r1, hc, hk⟩ := code_end w (getCode 0) 2 rfl
  generalize ((w.alloc (.cells #[.slice (some ⟨w.heap.size + 1, 0, none⟩) 2 2, .slice none 0 0] 53)).alloc (.cells ((getCode 0).flatMap Ins.cells).toArray 140)) = wx at r0 r1 hc hk ⊢
  refine bodyPost_ret (v := .agg #[.slice (some ⟨w.heap.size + 1, 0, none⟩) 2 2, .slice none 0 0]) (by simp [results, Try.results27, go_sem, r0, r1]) rfl ?_
  exact ⟨_, _, rfl, fun w'' kk => ⟨hc w'' kk, ⟨none, 0, rfl, fun k u hk => by simp [u64s] at hk⟩⟩, hk⟩
set_option maxRecDepth 100000 in
set_option maxHeartbeats 4000000 in
theorem get1_code (w : World) : Calls Try.prog 27 #[.int .i64 1] w (CallMade w (getCode 1)) := by
  go_enter Try.func27, Try.ntmps27
  go_wp2
  change bodyPost Try.prog _ _ Exit.ret _ ((w.alloc (.cells #[.slice (some ⟨w.heap.size + 1, 0, none⟩) 2 2, .slice none 0 0] 53)).alloc (.cells ((getCode 1).flatMap Ins.cells).toArray 140))
  obtain ⟨r0, r1, hc, hk⟩ := code_end w (getCode 1) 2 rfl
  generalize ((w.alloc (.cells #[.slice (some ⟨w.heap.size + 1, 0, none⟩) 2 2, .slice none 0 0] 53)).alloc (.cells ((getCode 1).flatMap Ins.cells).toArray 140)) = wx at r0 r1 hc hk ⊢
  refine bodyPost_ret (v := .agg #[.slice (some ⟨w.heap.size + 1, 0, none⟩) 2 2, .slice none 0 0]) (by simp [results, Try.results27, go_sem, r0, r1]) rfl ?_
  exact ⟨_, _, rfl, fun w'' kk => ⟨hc w'' kk, ⟨none, 0, rfl, fun k u hk => by simp [u64s] at hk⟩⟩, hk⟩
set_option maxRecDepth 100000 in
set_option maxHeartbeats 4000000 in
theorem add_code (v : Nat) (w : World) : Calls Try.prog 28 #[.int .i64 0, .int .u64 (v : Int)] w (CallMade w (addCode v)) := by
  go_enter Try.func28, Try.ntmps28
  go_wp2
  change bodyPost Try.prog _ _ Exit.ret _ ((w.alloc (.cells #[.slice (some ⟨w.heap.size + 1, 0, none⟩) 3 3, .slice none 0 0] 53)).alloc (.cells ((addCode v).flatMap Ins.cells).toArray 140))
  obtain ⟨r0, r1, hc, hk⟩ := code_end w (addCode v) 3 rfl
  generalize ((w.alloc (.cells #[.slice (some ⟨w.heap.size + 1, 0, none⟩) 3 3, .slice none 0 0] 53)).alloc (.cells ((addCode v).flatMap Ins.cells).toArray 140)) = wx at r0 r1 hc hk ⊢
  refine bodyPost_ret (v := .agg #[.slice (some ⟨w.heap.size + 1, 0, none⟩) 3 3, .slice none 0 0]) (by simp [results, Try.results28, go_sem, r0, r1]) rfl ?_
  exact ⟨_, _, rfl, fun w'' kk => ⟨hc w'' kk, ⟨none, 0, rfl, fun k u hk => by simp [u64s] at hk⟩⟩, hk⟩
set_option maxRecDepth 100000 in
set_option maxHeartbeats 4000000 in
theorem up_code (v b : Nat) (w : World) : Calls Try.prog 29 #[.int .i64 0, .int .u64 (v : Int), .int .u64 (b : Int)] w (CallMade w (upCode v b)) := by
  go_enter Try.func29, Try.ntmps29
  go_wp2
  change bodyPost Try.prog _ _ Exit.ret _ ((w.alloc (.cells #[.slice (some ⟨w.heap.size + 1, 0, none⟩) 14 14, .slice none 0 0] 53)).alloc (.cells ((upCode v b).flatMap Ins.cells).toArray 140))
  obtain ⟨r0, r1, hc, hk⟩ := code_end w (upCode v b) 14 rfl
  generalize ((w.alloc (.cells #[.slice (some ⟨w.heap.size + 1, 0, none⟩) 14 14, .slice none 0 0] 53)).alloc (.cells ((upCode v b).flatMap Ins.cells).toArray 140)) = wx at r0 r1 hc hk ⊢
  refine bodyPost_ret (v := .agg #[.slice (some ⟨w.heap.size + 1, 0, none⟩) 14 14, .slice none 0 0]) (by simp [results, Try.results29, go_sem, r0, r1]) rfl ?_
  exact ⟨_, _, rfl, fun w'' kk => ⟨hc w'' kk, ⟨none, 0, rfl, fun k u hk => by simp [u64s] at hk⟩⟩, hk⟩
set_option maxRecDepth 100000 in
set_option maxHeartbeats 4000000 in
theorem down_code (v : Nat) (w : World) : Calls Try.prog 30 #[.int .i64 0, .int .u64 (v : Int)] w (CallMade w (downCode v)) := by
  go_enter Try.func30, Try.ntmps30
  go_wp2
  change bodyPost Try.prog _ _ Exit.ret _ ((w.alloc (.cells #[.slice (some ⟨w.heap.size + 1, 0, none⟩) 11 11, .slice none 0 0] 53)).alloc (.cells ((downCode v).flatMap Ins.cells).toArray 140))
  obtain ⟨r0, r1, hc, hk⟩ := code_end w (downCode v) 11 rfl
  generalize ((w.alloc (.cells #[.slice (some ⟨w.heap.size + 1, 0, none⟩) 11 11, .slice none 0 0] 53)).alloc (.cells ((downCode v).flatMap Ins.cells).toArray 140)) = wx at r0 r1 hc hk ⊢
  refine bodyPost_ret (v := .agg #[.slice (some ⟨w.heap.size + 1, 0, none⟩) 11 11, .slice none 0 0]) (by simp [results, Try.results30, go_sem, r0, r1]) rfl ?_
  exact ⟨_, _, rfl, fun w'' kk => ⟨hc w'' kk, ⟨none, 0, rfl, fun k u hk => by simp [u64s] at hk⟩⟩, hk⟩
set_option maxRecDepth 100000 in
set_option maxHeartbeats 4000000 in
theorem max_code (v : Nat) (w : World) : Calls Try.prog 31 #[.int .i64 0, .int .u64 (v : Int)] w (CallMade w (maxCode v)) := by
  go_enter Try.func31, Try.ntmps31
  go_wp2
  change bodyPost Try.prog _ _ Exit.ret _ ((w.alloc (.cells #[.slice (some ⟨w.heap.size + 1, 0, none⟩) 8 8, .slice none 0 0] 53)).alloc (.cells ((maxCode v).flatMap Ins.cells).toArray 140))
  obtain ⟨r0, r1, hc, hk⟩ := code_end w (maxCode v) 8 rfl
  generalize ((w.alloc (.cells #[.slice (some ⟨w.heap.size + 1, 0, none⟩) 8 8, .slice none 0 0] 53)).alloc (.cells ((maxCode v).flatMap Ins.cells).toArray 140)) = wx at r0 r1 hc hk ⊢
  refine bodyPost_ret (v := .agg #[.slice (some ⟨w.heap.size + 1, 0, none⟩) 8 8, .slice none 0 0]) (by simp [results, Try.results31, go_sem, r0, r1]) rfl ?_
  exact ⟨_, _, rfl, fun w'' kk => ⟨hc w'' kk, ⟨none, 0, rfl, fun k u hk => by simp [u64s] at hk⟩⟩, hk⟩
set_option maxRecDepth 100000 in
set_option maxHeartbeats 4000000 in
theorem turn1_code (w : World) : Calls Try.prog 32 #[.int .i64 1, .int .u64 1] w (CallMade w (turnCode 1)) := by
  go_enter Try.func32, Try.ntmps32
  go_wp2
  change bodyPost Try.prog _ _ Exit.ret _ ((w.alloc (.cells #[.slice (some ⟨w.heap.size + 1, 0, none⟩) 7 7, .slice none 0 0] 53)).alloc (.cells ((turnCode 1).flatMap Ins.cells).toArray 140))
  obtain ⟨r0, r1, hc, hk⟩ := code_end w (turnCode 1) 7 rfl
  generalize ((w.alloc (.cells #[.slice (some ⟨w.heap.size + 1, 0, none⟩) 7 7, .slice none 0 0] 53)).alloc (.cells ((turnCode 1).flatMap Ins.cells).toArray 140)) = wx at r0 r1 hc hk ⊢
  refine bodyPost_ret (v := .agg #[.slice (some ⟨w.heap.size + 1, 0, none⟩) 7 7, .slice none 0 0]) (by simp [results, Try.results32, go_sem, r0, r1]) rfl ?_
  exact ⟨_, _, rfl, fun w'' kk => ⟨hc w'' kk, ⟨none, 0, rfl, fun k u hk => by simp [u64s] at hk⟩⟩, hk⟩
set_option maxRecDepth 100000 in
set_option maxHeartbeats 4000000 in
theorem turn0_code (w : World) : Calls Try.prog 32 #[.int .i64 1, .int .u64 0] w (CallMade w (turnCode 0)) := by
  go_enter Try.func32, Try.ntmps32
  go_wp2
  change bodyPost Try.prog _ _ Exit.ret _ ((w.alloc (.cells #[.slice (some ⟨w.heap.size + 1, 0, none⟩) 7 7, .slice none 0 0] 53)).alloc (.cells ((turnCode 0).flatMap Ins.cells).toArray 140))
  obtain ⟨r0, r1, hc, hk⟩ := code_end w (turnCode 0) 7 rfl
  generalize ((w.alloc (.cells #[.slice (some ⟨w.heap.size + 1, 0, none⟩) 7 7, .slice none 0 0] 53)).alloc (.cells ((turnCode 0).flatMap Ins.cells).toArray 140)) = wx at r0 r1 hc hk ⊢
  refine bodyPost_ret (v := .agg #[.slice (some ⟨w.heap.size + 1, 0, none⟩) 7 7, .slice none 0 0]) (by simp [results, Try.results32, go_sem, r0, r1]) rfl ?_
  exact ⟨_, _, rfl, fun w'' kk => ⟨hc w'' kk, ⟨none, 0, rfl, fun k u hk => by simp [u64s] at hk⟩⟩, hk⟩
set_option maxRecDepth 100000 in
set_option maxHeartbeats 4000000 in
theorem put_code (v : Nat) (w : World) : Calls Try.prog 34 #[.int .i64 2, .int .u64 (v : Int)] w (CallMade w (putBox v)) := by
  go_enter Try.func34, Try.ntmps34
  go_wp2
  change bodyPost Try.prog _ _ Exit.ret _ ((w.alloc (.cells #[.slice (some ⟨w.heap.size + 1, 0, none⟩) 8 8, .slice none 0 0] 53)).alloc (.cells ((putBox v).flatMap Ins.cells).toArray 140))
  obtain ⟨r0, r1, hc, hk⟩ := code_end w (putBox v) 8 rfl
  generalize ((w.alloc (.cells #[.slice (some ⟨w.heap.size + 1, 0, none⟩) 8 8, .slice none 0 0] 53)).alloc (.cells ((putBox v).flatMap Ins.cells).toArray 140)) = wx at r0 r1 hc hk ⊢
  refine bodyPost_ret (v := .agg #[.slice (some ⟨w.heap.size + 1, 0, none⟩) 8 8, .slice none 0 0]) (by simp [results, Try.results34, go_sem, r0, r1]) rfl ?_
  exact ⟨_, _, rfl, fun w'' kk => ⟨hc w'' kk, ⟨none, 0, rfl, fun k u hk => by simp [u64s] at hk⟩⟩, hk⟩
set_option maxRecDepth 100000 in
set_option maxHeartbeats 4000000 in
theorem try_code (m v : Nat) (w : World) : Calls Try.prog 35 #[.int .i64 2, .int .u64 (m : Int), .int .u64 (v : Int)] w (CallMade w (tryBox m v)) := by
  go_enter Try.func35, Try.ntmps35
  go_wp2
  change bodyPost Try.prog _ _ Exit.ret _ ((w.alloc (.cells #[.slice (some ⟨w.heap.size + 1, 0, none⟩) 11 11, .slice none 0 0] 53)).alloc (.cells ((tryBox m v).flatMap Ins.cells).toArray 140))
  obtain ⟨r0, r1, hc, hk⟩ := code_end w (tryBox m v) 11 rfl
  generalize ((w.alloc (.cells #[.slice (some ⟨w.heap.size + 1, 0, none⟩) 11 11, .slice none 0 0] 53)).alloc (.cells ((tryBox m v).flatMap Ins.cells).toArray 140)) = wx at r0 r1 hc hk ⊢
  refine bodyPost_ret (v := .agg #[.slice (some ⟨w.heap.size + 1, 0, none⟩) 11 11, .slice none 0 0]) (by simp [results, Try.results35, go_sem, r0, r1]) rfl ?_
  exact ⟨_, _, rfl, fun w'' kk => ⟨hc w'' kk, ⟨none, 0, rfl, fun k u hk => by simp [u64s] at hk⟩⟩, hk⟩
end Go.Proofs.Ytakpfkfhbeobeaa.rf3
