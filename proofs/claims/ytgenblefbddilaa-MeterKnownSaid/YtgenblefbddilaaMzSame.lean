/-
  SameWords, SameMarks of lists that are one; Within.
-/
import Derived.Test.YtgenblefbddilaaMzWith
import Derived.Test.YtgenblefbddilaaMzSameM
set_option linter.unusedVariables false
namespace Go.Proofs.Ytgenblefbddilaa.mz
open Go.RowKit Go.Proofs.Ytgenblefbddilaa.oc
set_option maxHeartbeats 1000000 in
theorem same_words (A A' : Option Addr) (l : List Nat) (n c c' B B' : Nat) (w : World) (hn : l.length = n) (hm : n ≤ 1000000) (hr : Rd w B A (u64s l)) (hr' : Rd w B' A' (u64s l)) :
    Calls Try.prog 14 #[.slice A n c, .slice A' n c'] w fun e w' => e = .returned (.bool true) ∧ ∃ d, w.drewN d = w' := by
  have HN := Lib.hid hn
  clear hn
  go_enter Try.func14, Try.ntmps14
  go_wp2
  go_loopw [5] (fun i wr => ∃ k d : Nat, k ≤ n ∧ i = .int .i64 k ∧ w.drewN d = wr) (fun i _ => n - (intOf i).toNat)
  case atStart => exact ⟨0, 0, Nat.zero_le _, rfl, rfl⟩
  case round =>
    obtain ⟨k, d, hk, rfl, rfl⟩ := hrel
    by_cases hlt : k < n
    · have hx := getq (bs := l) (k := k) (by rw [HN.out]; exact hlt)
      obtain ⟨b, o, rfl, hb, hc⟩ := hr _ _ (u64s_at hx)
      obtain ⟨b', o', rfl, hb', hc'⟩ := hr' _ _ (u64s_at hx)
      have hlt' : (k : Int) < (n : Int) := by omega
      have h0 : (0 : Int) ≤ (k : Int) := by omega
      clear hx
      generalize l.getD k 0 = x at *
      go_wp2
      go_quiet (fail)
      go_wp2
      go_roundw
      case rel => exact ⟨k + 1, d + nq, by omega, by go_num, rfl⟩
      case measure => simp [intOf]; omega
    · go_wp2
      go_ret
      exact ⟨rfl, d, rfl⟩
end Go.Proofs.Ytgenblefbddilaa.mz
