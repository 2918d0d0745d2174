/-
  math/bits.Len64: how many bits a number has.
-/
import Derived.Test.YtekglcphdjjmcaaProg
import Derived.Lib.BitFns
import Derived.Lib.Walk
import Derived.Lib.Small
set_option linter.unusedVariables false
namespace Go.Proofs.Ytekglcphdjjmcaa.ln

/-- what a shift by k leaves, and its bits by the table -/
theorem tab (x k y : Nat) (hx : x < 18446744073709551616) (h : k = 0 ∨ 2 ^ k ≤ x) (hy : y = x / 2 ^ k) (h2 : y < 256) : Lib.bitLen x = k + Lib.bitLen y ∧ Lib.bitLen y ≤ 8 := by
  refine ⟨?_, Lib.bitLen_le8 ⟨y, h2⟩⟩
  rcases h with rfl | h
  · rw [hy, Nat.pow_zero, Nat.div_one, Nat.zero_add]
  · rw [hy]; exact Lib.bitLen_shift k x h hx
theorem tabI (y : Int) (n : Nat) (h : y = (n : Int)) (h2 : n < 256) : Lib.len8 (y % 256) = (Lib.bitLen n : Int) := by
  have e : y % 256 = y := by omega
  rw [e, h]
  exact Lib.len8_eq ⟨n, h2⟩
set_option maxRecDepth 100000 in
set_option maxHeartbeats 4000000 in
theorem len64_ (x : Nat) (w : World) (hx : x < 18446744073709551616) : Calls Try.prog 27 #[.int .u64 (x : Int)] w fun e w' => e = .returned (.int .i64 (Lib.bitLen x : Int)) ∧ w = w' := by
  go_enter Try.func27, Try.ntmps27
  go_wp2
  all_goals go_ret
  all_goals refine ⟨congrArg Ending.returned (congrArg (Value.int IntKind.i64) ?_), rfl⟩
  all_goals first
    | (obtain ⟨s, l⟩ := tab x 56 (x / 72057594037927936) hx (.inr (by omega)) (by simp) (by omega); rw [tabI _ (x / 72057594037927936) (by omega) (by omega)]; omega)
    | (obtain ⟨s, l⟩ := tab x 48 (x / 281474976710656) hx (.inr (by omega)) (by simp) (by omega); rw [tabI _ (x / 281474976710656) (by omega) (by omega)]; omega)
    | (obtain ⟨s, l⟩ := tab x 40 (x / 1099511627776) hx (.inr (by omega)) (by simp) (by omega); rw [tabI _ (x / 1099511627776) (by omega) (by omega)]; omega)
    | (obtain ⟨s, l⟩ := tab x 32 (x / 4294967296) hx (.inr (by omega)) (by simp) (by omega); rw [tabI _ (x / 4294967296) (by omega) (by omega)]; omega)
    | (obtain ⟨s, l⟩ := tab x 24 (x / 16777216) hx (.inr (by omega)) (by simp) (by omega); rw [tabI _ (x / 16777216) (by omega) (by omega)]; omega)
    | (obtain ⟨s, l⟩ := tab x 16 (x / 65536) hx (.inr (by omega)) (by simp) (by omega); rw [tabI _ (x / 65536) (by omega) (by omega)]; omega)
    | (obtain ⟨s, l⟩ := tab x 8 (x / 256) hx (.inr (by omega)) (by simp) (by omega); rw [tabI _ (x / 256) (by omega) (by omega)]; omega)
    | (obtain ⟨s, l⟩ := tab x 0 (x) hx (.inl rfl) (by simp) (by omega); rw [tabI _ (x) (by omega) (by omega)]; omega)
theorem bits_le : ∀ (k x : Nat), x < 18446744073709551616 → (Lib.bitLen x ≤ k ↔ x < 2 ^ k)
  | 0, x, hx => by
    by_cases h : x = 0
    · subst h; exact ⟨fun _ => by decide, fun _ => by decide⟩
    · rw [Lib.bitLen_half x h hx]; constructor <;> intro z <;> omega
  | k + 1, x, hx => by
    by_cases h : x = 0
    · subst h; exact ⟨fun _ => Nat.pow_pos (by decide), fun _ => by show 0 ≤ _; omega⟩
    · have := bits_le k (x / 2) (by omega)
      rw [Lib.bitLen_half x h hx, Nat.pow_succ]; constructor <;> intro z <;> omega
theorem bits_64 (x : Nat) (hx : x < 18446744073709551616) : Lib.bitLen x ≤ 64 := (bits_le 64 x hx).2 hx
end Go.Proofs.Ytekglcphdjjmcaa.ln
