/-
  The thread's own instructions that are jumps, or Tell: own hands them on.
-/
import Derived.Test.YtebjmmckejbklaaMzTurn
import Derived.Test.YtebjmmckejbklaaMzTell
import Derived.Laws.Rows
namespace Go.Proofs.Ytebjmmckejbklaa.mz
open Go.RowKit Go.Proofs.Ytebjmmckejbklaa.oc
set_option maxRecDepth 100000 in
set_option maxHeartbeats 400000 in
theorem ownT (k : Int) (hk : k = 18 ∨ k = 19 ∨ k = 20 ∨ k = 21 ∨ k = 22) (g on a b c d n : Nat) (P : Option Addr) (w : World) (s : Ts) (h : Thr w g s) (hat : s.at_ < 1000000) (Q : Ending → World → Prop)
    (H : ∀ w1, Thr w1 g { s with at_ := s.at_ + 1 } → Keeps (· = g) w w1 → Calls Try.prog 56 #[.pointer (some ⟨g, 0, none⟩), .pointer P, .agg #[.int .i64 k, .int .i64 on, .int .i64 a, .int .i64 b, .int .i64 c, .int .i64 d, .int .u64 n]] w1 fun e w' => e = .returned (.tuple #[]) ∧ Q e w') :
    Calls Try.prog 53 #[.pointer (some ⟨g, 0, none⟩), .pointer P, .agg #[.int .i64 k, .int .i64 on, .int .i64 a, .int .i64 b, .int .i64 c, .int .i64 d, .int .u64 n]] w fun e w' => e = .returned (.tuple #[]) ∧ Q e w' := by
  have h2 := h.at_
  have f2 := h.frozen 2
  have hlt := h.blk.lt
  rcases hk with rfl | rfl | rfl | rfl | rfl
  · obtain ⟨w1, hw1, h1, k1, c1⟩ := enter_own h #[.int .i64 18, .int .i64 on, .int .i64 a, .int .i64 b, .int .i64 c, .int .i64 d, .int .u64 n] 119
    have HW := Lib.hid hw1
    have HQ := Lib.hid (H w1 h1 k1)
    clear hw1 h1 k1 c1 h H
    go_enter Try.func53, Try.ntmps53
    go_wp2_with fail
    rw [← HW.out]
    refine HQ.out.mono ?_
    rintro e w' ⟨rfl, hq⟩
    have HR := Lib.hid hq
    clear hq
    go_wp2
    go_end0
    exact ⟨rfl, HR.out⟩
  · obtain ⟨w1, hw1, h1, k1, c1⟩ := enter_own h #[.int .i64 19, .int .i64 on, .int .i64 a, .int .i64 b, .int .i64 c, .int .i64 d, .int .u64 n] 119
    have HW := Lib.hid hw1
    have HQ := Lib.hid (H w1 h1 k1)
    clear hw1 h1 k1 c1 h H
    go_enter Try.func53, Try.ntmps53
    go_wp2_with fail
    rw [← HW.out]
    refine HQ.out.mono ?_
    rintro e w' ⟨rfl, hq⟩
    have HR := Lib.hid hq
    clear hq
    go_wp2
    go_end0
    exact ⟨rfl, HR.out⟩
  · obtain ⟨w1, hw1, h1, k1, c1⟩ := enter_own h #[.int .i64 20, .int .i64 on, .int .i64 a, .int .i64 b, .int .i64 c, .int .i64 d, .int .u64 n] 119
    have HW := Lib.hid hw1
    have HQ := Lib.hid (H w1 h1 k1)
    clear hw1 h1 k1 c1 h H
    go_enter Try.func53, Try.ntmps53
    go_wp2_with fail
    rw [← HW.out]
    refine HQ.out.mono ?_
    rintro e w' ⟨rfl, hq⟩
    have HR := Lib.hid hq
    clear hq
    go_wp2
    go_end0
    exact ⟨rfl, HR.out⟩
  · obtain ⟨w1, hw1, h1, k1, c1⟩ := enter_own h #[.int .i64 21, .int .i64 on, .int .i64 a, .int .i64 b, .int .i64 c, .int .i64 d, .int .u64 n] 119
    have HW := Lib.hid hw1
    have HQ := Lib.hid (H w1 h1 k1)
    clear hw1 h1 k1 c1 h H
    go_enter Try.func53, Try.ntmps53
    go_wp2_with fail
    rw [← HW.out]
    refine HQ.out.mono ?_
    rintro e w' ⟨rfl, hq⟩
    have HR := Lib.hid hq
    clear hq
    go_wp2
    go_end0
    exact ⟨rfl, HR.out⟩
  · obtain ⟨w1, hw1, h1, k1, c1⟩ := enter_own h #[.int .i64 22, .int .i64 on, .int .i64 a, .int .i64 b, .int .i64 c, .int .i64 d, .int .u64 n] 119
    have HW := Lib.hid hw1
    have HQ := Lib.hid (H w1 h1 k1)
    clear hw1 h1 k1 c1 h H
    go_enter Try.func53, Try.ntmps53
    go_wp2_with fail
    rw [← HW.out]
    refine HQ.out.mono ?_
    rintro e w' ⟨rfl, hq⟩
    have HR := Lib.hid hq
    clear hq
    go_wp2
    go_end0
    exact ⟨rfl, HR.out⟩
end Go.Proofs.Ytebjmmckejbklaa.mz
