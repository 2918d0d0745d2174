/-
  Plain numbers for octets: what folding a sum to 16 bits comes to. Nothing of the program.
-/
import Derived.WalkKit
namespace Go.Proofs.Ytidengmcbppcoaa.oc

/-- a number folded to 16 bits -/
def fold (n : Nat) : Nat := if n = 0 then 0 else (n - 1) % 65535 + 1

theorem fold_le (n : Nat) : fold n ≤ 65535 := by unfold fold; split <;> omega
theorem fold_small {n : Nat} (h : n ≤ 65535) : fold n = n := by unfold fold; split <;> omega
theorem fold_step {n : Nat} (h : 65535 < n) : fold (n / 65536 + n % 65536) = fold n := by
  unfold fold
  rw [if_neg (by omega), if_neg (by omega)]
  omega
theorem fold_step' {n : Nat} (h : 65535 < n) : fold (n % 65536 + n / 65536) = fold n := by rw [Nat.add_comm]; exact fold_step h
theorem fold_mod (n : Nat) : fold n % 65535 = n % 65535 := by unfold fold; split <;> omega
theorem and16 (k : Nat) (h : k < 18446744073709551616) : bits .and .u64 (k : Int) 65535 = ((k % 65536 : Nat) : Int) := by
  have e := u64_and_nat k 65535 h (by omega)
  rw [show (65535 : Int) = ((65535 : Nat) : Int) from rfl, e, show (65535 : Nat) = 2 ^ 16 - 1 from rfl, Nat.and_two_pow_sub_one_eq_mod]
theorem fold_zero {n : Nat} : fold n = 0 ↔ n = 0 := by unfold fold; split <;> omega
end Go.Proofs.Ytidengmcbppcoaa.oc
