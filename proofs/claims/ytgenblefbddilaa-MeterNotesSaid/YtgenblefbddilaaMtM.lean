/-
  patchbayref13's May.
-/
import Derived.Test.YtgenblefbddilaaBq
set_option linter.unusedVariables false
namespace Go.Proofs.Ytgenblefbddilaa.mt
open Go.RowKit Go.Proofs.Ytgenblefbddilaa.oc Go.Proofs.Ytgenblefbddilaa.mz Go.Proofs.Ytgenblefbddilaa.bk
section
variable (n d u : Nat) (w : World)
set_option maxRecDepth 100000 in
set_option maxHeartbeats 1000000 in
theorem may_0  (h0 : ¬ 1 ≤ n) : Calls Try.prog 6 #[bv n d u] w fun e w' => e = .returned (.bool false) ∧ ∀ S, Keeps S w w' := by
  have q0 : ¬ (1 : Int) ≤ (n : Int) := by omega
  clear h0
  unfold bv
  go_enter Try.func6, Try.ntmps6
  go_wp2
  try rw [Exit.noGoto_ret]
  go_ret
  exact ⟨rfl, fun S => (Keeps.refl S w).alloc _⟩
set_option maxRecDepth 100000 in
set_option maxHeartbeats 1000000 in
theorem may_1 (h0 : 1 ≤ n) (h1 : ¬ n ≤ 65536) : Calls Try.prog 6 #[bv n d u] w fun e w' => e = .returned (.bool false) ∧ ∀ S, Keeps S w w' := by
  have q0 : (1 : Int) ≤ (n : Int) := by omega
  have q1 : ¬ (n : Int) ≤ 65536 := by omega
  clear h0 h1
  unfold bv
  go_enter Try.func6, Try.ntmps6
  go_wp2
  try rw [Exit.noGoto_ret]
  go_ret
  exact ⟨rfl, fun S => (Keeps.refl S w).alloc _⟩
set_option maxRecDepth 100000 in
set_option maxHeartbeats 1000000 in
theorem may_2 (h0 : 1 ≤ n) (h1 : n ≤ 65536) (h2 : ¬ 1 ≤ d) : Calls Try.prog 6 #[bv n d u] w fun e w' => e = .returned (.bool false) ∧ ∀ S, Keeps S w w' := by
  have q0 : (1 : Int) ≤ (n : Int) := by omega
  have q1 : (n : Int) ≤ 65536 := by omega
  have q2 : ¬ (1 : Int) ≤ (d : Int) := by omega
  clear h0 h1 h2
  unfold bv
  go_enter Try.func6, Try.ntmps6
  go_wp2
  try rw [Exit.noGoto_ret]
  go_ret
  exact ⟨rfl, fun S => (Keeps.refl S w).alloc _⟩
set_option maxRecDepth 100000 in
set_option maxHeartbeats 1000000 in
theorem may_3 (h0 : 1 ≤ n) (h1 : n ≤ 65536) (h2 : 1 ≤ d) (h3 : ¬ d ≤ 65536) : Calls Try.prog 6 #[bv n d u] w fun e w' => e = .returned (.bool false) ∧ ∀ S, Keeps S w w' := by
  have q0 : (1 : Int) ≤ (n : Int) := by omega
  have q1 : (n : Int) ≤ 65536 := by omega
  have q2 : (1 : Int) ≤ (d : Int) := by omega
  have q3 : ¬ (d : Int) ≤ 65536 := by omega
  clear h0 h1 h2 h3
  unfold bv
  go_enter Try.func6, Try.ntmps6
  go_wp2
  try rw [Exit.noGoto_ret]
  go_ret
  exact ⟨rfl, fun S => (Keeps.refl S w).alloc _⟩
set_option maxRecDepth 100000 in
set_option maxHeartbeats 1000000 in
theorem may_4 (h0 : 1 ≤ n) (h1 : n ≤ 65536) (h2 : 1 ≤ d) (h3 : d ≤ 65536) (h4 : ¬ 1 ≤ u) : Calls Try.prog 6 #[bv n d u] w fun e w' => e = .returned (.bool false) ∧ ∀ S, Keeps S w w' := by
  have q0 : (1 : Int) ≤ (n : Int) := by omega
  have q1 : (n : Int) ≤ 65536 := by omega
  have q2 : (1 : Int) ≤ (d : Int) := by omega
  have q3 : (d : Int) ≤ 65536 := by omega
  have q4 : ¬ (1 : Int) ≤ (u : Int) := by omega
  clear h0 h1 h2 h3 h4
  unfold bv
  go_enter Try.func6, Try.ntmps6
  go_wp2
  try rw [Exit.noGoto_ret]
  go_ret
  exact ⟨rfl, fun S => (Keeps.refl S w).alloc _⟩
set_option maxRecDepth 100000 in
set_option maxHeartbeats 1000000 in
theorem may_5 (h0 : 1 ≤ n) (h1 : n ≤ 65536) (h2 : 1 ≤ d) (h3 : d ≤ 65536) (h4 : 1 ≤ u) (h5 : ¬ u ≤ 1048576) : Calls Try.prog 6 #[bv n d u] w fun e w' => e = .returned (.bool false) ∧ ∀ S, Keeps S w w' := by
  have q0 : (1 : Int) ≤ (n : Int) := by omega
  have q1 : (n : Int) ≤ 65536 := by omega
  have q2 : (1 : Int) ≤ (d : Int) := by omega
  have q3 : (d : Int) ≤ 65536 := by omega
  have q4 : (1 : Int) ≤ (u : Int) := by omega
  have q5 : ¬ (u : Int) ≤ 1048576 := by omega
  clear h0 h1 h2 h3 h4 h5
  unfold bv
  go_enter Try.func6, Try.ntmps6
  go_wp2
  try rw [Exit.noGoto_ret]
  go_ret
  exact ⟨rfl, fun S => (Keeps.refl S w).alloc _⟩
set_option maxRecDepth 100000 in
set_option maxHeartbeats 1000000 in
theorem may_6 (h0 : 1 ≤ n) (h1 : n ≤ 65536) (h2 : 1 ≤ d) (h3 : d ≤ 65536) (h4 : 1 ≤ u) (h5 : u ≤ 1048576) : Calls Try.prog 6 #[bv n d u] w fun e w' => e = .returned (.bool true) ∧ ∀ S, Keeps S w w' := by
  have q0 : (1 : Int) ≤ (n : Int) := by omega
  have q1 : (n : Int) ≤ 65536 := by omega
  have q2 : (1 : Int) ≤ (d : Int) := by omega
  have q3 : (d : Int) ≤ 65536 := by omega
  have q4 : (1 : Int) ≤ (u : Int) := by omega
  have q5 : (u : Int) ≤ 1048576 := by omega
  clear h0 h1 h2 h3 h4 h5
  unfold bv
  go_enter Try.func6, Try.ntmps6
  go_wp2
  try rw [Exit.noGoto_ret]
  go_ret
  exact ⟨rfl, fun S => (Keeps.refl S w).alloc _⟩
theorem may_yes (hm : May n d u) : Calls Try.prog 6 #[bv n d u] w fun e w' => e = .returned (.bool true) ∧ ∀ S, Keeps S w w' := by
  obtain ⟨⟨a, b⟩, ⟨c, e⟩, f, g⟩ := hm
  exact may_6 n d u w a b c e f g
theorem may_no (hm : ¬ May n d u) : Calls Try.prog 6 #[bv n d u] w fun e w' => e = .returned (.bool false) ∧ ∀ S, Keeps S w w' := by
  by_cases a : 1 ≤ n
  · by_cases b : n ≤ 65536
    · by_cases c : 1 ≤ d
      · by_cases e : d ≤ 65536
        · by_cases f : 1 ≤ u
          · by_cases g : u ≤ 1048576
            · exact absurd ⟨⟨a, b⟩, ⟨c, e⟩, f, g⟩ hm
            · exact may_5 n d u w a b c e f g
          · exact may_4 n d u w a b c e f
        · exact may_3 n d u w a b c e
      · exact may_2 n d u w a b c
    · exact may_1 n d u w a b
  · exact may_0 n d u w a
end
end Go.Proofs.Ytgenblefbddilaa.mt
