/-
  What the law OctetsPuts's second loop makes of five rows: plain facts.
-/
import Derived.Test.YtbnkmfmbbbcogaaOcFive
namespace Go.Proofs.Ytbnkmfmbbbcogaa.oc
open Go.RowKit
def bv (j : Nat) : Value := .int .u8 (j : Int)
def Done (k : Nat) (len : Nat → Nat) (xs : Nat → List Value) : Prop := ∀ j, j < k → xs j = List.replicate (len j) (bv j)
def LenB (n k : Nat) (len : Nat → Nat) : Prop := (∀ j, j < 5 → len j ≤ n + 28) ∧ (∀ j, k ≤ j → j < 5 → len j ≤ n + 8)
def In1 (n k q : Nat) (len : Nat → Nat) (xs : Nat → List Value) : Prop := LenB n k len ∧ Done k len xs ∧ q ≤ len k ∧ (xs k).take q = List.replicate q (bv k)
def In2 (n k q : Nat) (len : Nat → Nat) (xs : Nat → List Value) : Prop := ((∀ j, j < 5 → len j ≤ n + 28) ∧ (∀ j, k < j → j < 5 → len j ≤ n + 8)) ∧ len k ≤ n + 8 + q ∧ q ≤ 20 ∧ Done (k + 1) len xs
section
variable {n k q : Nat} {len : Nat → Nat} {xs : Nat → List Value}
theorem In1.start (h : LenB n k len) (d : Done k len xs) : In1 n k 0 len xs := ⟨h, d, Nat.zero_le _, by simp⟩
theorem In1.step (h : In1 n k q len xs) (hq : q < len k) (hl : (xs k).length = len k) : In1 n k (q + 1) len (up xs k ((xs k).set q (bv k))) := by
  obtain ⟨h1, h2, h3, h4⟩ := h
  refine ⟨h1, fun j hj => ?_, hq, ?_⟩
  · rw [up_other _ _ (by omega)]
    exact h2 j hj
  · rw [up_same, List.replicate_succ', ← h4, List.take_add_one, List.getElem?_set_self (by omega), List.take_set_of_le (Nat.le_refl _)]
    rfl
theorem In1.stop (h : In1 n k q len xs) (hk : k < 5) (hq : ¬ q < len k) (hl : (xs k).length = len k) : In2 n k 0 len xs := by
  obtain ⟨h1, h2, h3, h4⟩ := h
  have e : q = len k := by omega
  subst e
  rw [List.take_of_length_le (by omega)] at h4
  refine ⟨⟨h1.1, fun j hj hj5 => h1.2 j (by omega) hj5⟩, h1.2 k (Nat.le_refl _) hk, by omega, fun j hj => ?_⟩
  by_cases hjk : j = k
  · subst hjk; exact h4
  · exact h2 j (by omega)
theorem In2.step (h : In2 n k q len xs) (hk : k < 5) (hq : q < 20) : In2 n k (q + 1) (up len k (len k + 1)) (up xs k (xs k ++ [bv k])) := by
  obtain ⟨⟨h1, h1'⟩, h2, h3, h4⟩ := h
  refine ⟨⟨fun j hj => ?_, fun j hj hj5 => ?_⟩, ?_, by omega, fun j hj => ?_⟩
  · by_cases hjk : j = k
    · subst hjk; rw [up_same]; omega
    · rw [up_other _ _ hjk]; exact h1 j hj
  · rw [up_other _ _ (by omega)]; exact h1' j hj hj5
  · rw [up_same]; omega
  · by_cases hjk : j = k
    · subst hjk; rw [up_same, up_same, List.replicate_succ', ← h4 j (by omega)]
    · rw [up_other _ _ hjk, up_other _ _ hjk]; exact h4 j hj
theorem In2.stop (h : In2 n k q len xs) : LenB n (k + 1) len ∧ Done (k + 1) len xs :=
  ⟨⟨h.1.1, fun j hj hj5 => h.1.2 j (by omega) hj5⟩, h.2.2.2⟩
end
end Go.Proofs.Ytbnkmfmbbbcogaa.oc
