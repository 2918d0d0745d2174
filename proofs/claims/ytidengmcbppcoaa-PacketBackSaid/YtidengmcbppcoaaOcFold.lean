/-
  The two folds (the program's and the document's) answer what 'fold' says; both updates answer alike.
-/
import Derived.Test.YtidengmcbppcoaaRows
import Derived.Test.YtidengmcbppcoaaOcA
import Derived.Test.YtidengmcbppcoaaOcW
import Derived.WalkLawsBesides
import Derived.WalkSpells
import Derived.Outline
import Derived.Lib.Hide
namespace Go.Proofs.Ytidengmcbppcoaa.oc
open Go.RowKit

theorem fold_nat (n : Nat) (w : World) (hn : n < 18446744073709551616) :
    Calls Try.prog 69 #[.int .u64 n] w fun e w' => e = .returned (.int .u16 (fold n : Nat)) ∧ w = w' := by
  go_enter Try.func69, Try.ntmps69
  go_wp2
  go_loop [0, 3] (fun t _ => ∃ k : Nat, k < 18446744073709551616 ∧ fold k = fold n ∧ t = .int .u64 k) (fun t _ => (intOf t).toNat)
  case atStart => exact ⟨n, hn, rfl, rfl⟩
  case round =>
    obtain ⟨k, hk, hf, rfl⟩ := hrel
    have HF := Lib.hid hf
    clear hf hn
    by_cases h : 65535 < k
    · have e := and16 k hk
      go_wp2
      go_round
      case rel => exact ⟨k % 65536 + k / 65536, by omega, by rw [fold_step' h]; exact HF.out, by go_num⟩
      case measure => simp [intOf]; omega
    · go_wp2
      go_ret
      exact ⟨ret_int (by rw [← HF.out, fold_small (by omega)]), rfl⟩
theorem fold_any (i : Int) (w : World) (h0 : 0 ≤ i) (h1 : i < 18446744073709551616) :
    Calls Try.prog 69 #[.int .u64 i] w fun e w' => e = .returned (.int .u16 (fold i.toNat : Nat)) ∧ w = w' := by
  obtain ⟨n, rfl⟩ := Int.eq_ofNat_of_zero_le h0
  exact fold_nat n w (by omega)

theorem rfold_nat (n : Nat) (w : World) (hn : n < 18446744073709551616) :
    Calls Try.prog 59 #[.int .u64 n] w fun e w' => e = .returned (.int .u64 (fold n : Nat)) ∧ w = w' := by
  go_enter Try.func59, Try.ntmps59
  go_wp2
  go_loop [0] (fun t => ∃ k : Nat, k < 18446744073709551616 ∧ fold k = fold n ∧ t = .int .u64 k) (fun t => (intOf t).toNat)
  case atStart => exact ⟨n, hn, rfl, rfl⟩
  case round =>
    obtain ⟨k, hk, hf, rfl⟩ := hrel
    have HF := Lib.hid hf
    clear hf hn
    by_cases h : 65535 < k
    · go_wp2
      go_round
      case rel => exact ⟨k / 65536 + k % 65536, by omega, by rw [fold_step h]; exact HF.out, by go_num⟩
      case measure => simp [intOf]; omega
    · go_wp2
      go_ret
      exact ⟨ret_int (by rw [← HF.out, fold_small (by omega)]), rfl⟩
theorem rfold_any (i : Int) (w : World) (h0 : 0 ≤ i) (h1 : i < 18446744073709551616) :
    Calls Try.prog 59 #[.int .u64 i] w fun e w' => e = .returned (.int .u64 (fold i.toNat : Nat)) ∧ w = w' := by
  obtain ⟨n, rfl⟩ := Int.eq_ofNat_of_zero_le h0
  exact rfold_nat n w (by omega)

/-- the sum behind a change -/
def upd (s o n : Nat) : Nat := 65535 - fold (65535 - s + (65535 - o) + n)
theorem upd_le (s o n : Nat) : upd s o n ≤ 65535 := by unfold upd; omega
theorem upd_int (s o n : Nat) : (65535 : Int) - (fold (65535 - s + (65535 - o) + n) : Nat) = (upd s o n : Nat) := by
  have := fold_le (65535 - s + (65535 - o) + n)
  unfold upd
  omega


end Go.Proofs.Ytidengmcbppcoaa.oc
