/-
  Within.
-/
import Derived.Test.YtgenblefbddilaaMzBase
import Derived.WalkLawsBesides
import Derived.IntWalk
import Derived.Outline
import Derived.Lib.Hide
import Derived.WalkSpells
import Derived.Deep.QuietTactic
import Derived.BigQuiet
set_option linter.unusedVariables false
namespace Go.Proofs.Ytgenblefbddilaa.mz
open Go.RowKit Go.Proofs.Ytgenblefbddilaa.oc
set_option maxHeartbeats 1000000 in
theorem within_ (t : Int) (n : Nat) (w : World) (hn : 0 < n) (hn2 : n < 1000000) (h1 : -9223372036854775808 ≤ t) (h2 : t ≤ 9223372036854775807) :
    Calls Try.prog 22 #[.int .i64 t, .int .i64 (n : Int)] w fun e w' => e = .returned (.int .i64 (t % (n : Int))) ∧ w = w' := by
  have hm : t.tmod (n : Int) = if 0 ≤ t ∨ t % (n : Int) = 0 then t % (n : Int) else t % (n : Int) - n := by
    rw [Int.tmod_eq_emod]
    have hd : ((n : Int) ∣ t) ↔ t % (n : Int) = 0 := Int.dvd_iff_emod_eq_zero
    simp only [hd, Int.natAbs_natCast]
    split <;> simp
  have hp : 0 ≤ t % (n : Int) := Int.emod_nonneg _ (by omega)
  have hq : t % (n : Int) < n := Int.emod_lt_of_pos _ (by omega)
  have hnz : ¬ (n : Int) = 0 := by omega
  by_cases hc : 0 ≤ t ∨ t % (n : Int) = 0
  · rw [if_pos hc] at hm
    have hneg : ¬ t.tmod (n : Int) < 0 := by rw [hm]; omega
    rw [← hm]
    have HM := Lib.hid hm
    clear hm hp hq hc
    go_enter Try.func22, Try.ntmps22
    go_wp2
    go_ret
    exact ⟨rfl, rfl⟩
  · rw [if_neg hc] at hm
    have hneg : t.tmod (n : Int) < 0 := by rw [hm]; omega
    have hlow : -1000000 < t.tmod (n : Int) := by rw [hm]; omega
    have hsum : t % (n : Int) = t.tmod (n : Int) + n := by rw [hm]; omega
    rw [hsum]
    have HM := Lib.hid hm
    clear hm hp hq hc hsum
    have hn3 : (n : Int) < 1000000 := by omega
    have hn4 : (0 : Int) ≤ n := by omega
    go_enter Try.func22, Try.ntmps22
    go_wp2
    go_ret
    exact ⟨rfl, rfl⟩
end Go.Proofs.Ytgenblefbddilaa.mz
