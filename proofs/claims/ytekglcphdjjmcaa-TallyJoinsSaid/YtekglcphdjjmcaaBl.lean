/-
  What Below tells, plainly.
-/
import Derived.Test.YtekglcphdjjmcaaJn
set_option linter.unusedVariables false
namespace Go.Proofs.Ytekglcphdjjmcaa.th
open Go.RowKit Go.Proofs.Ytekglcphdjjmcaa.oc Go.Proofs.Ytekglcphdjjmcaa.mz
/-- how many numbers have at most k bits -/
def upto (c : List Nat) (k : Nat) : Nat := (c.take (k + 1)).sum
def IsK (c : List Nat) (need K : Nat) : Prop := K < 65 ∧ (∀ j, j < K → upto c j < need) ∧ need ≤ upto c K
theorem IsK.uniq {c : List Nat} {need K K' : Nat} (h : IsK c need K) (k : IsK c need K') : K = K' := by
  rcases Nat.lt_trichotomy K K' with q | q | q
  · have := k.2.1 K q; have := h.2.2; omega
  · exact q
  · have := h.2.1 K' q; have := k.2.2; omega
def BadArg (part of : Nat) : Prop := of = 0 ∨ 1048576 < of ∨ of < part
def needOf (s part of : Nat) : Nat := (s * part + of - 1) / of
/-- what Below tells of the counts c -/
def BelAns (c : List Nat) (part of v e : Nat) : Prop :=
  (BadArg part of ∧ v = 0 ∧ e = 2) ∨ (¬ BadArg part of ∧ 1099511627776 < c.sum ∧ v = 0 ∧ e = 4) ∨ (¬ BadArg part of ∧ c.sum ≤ 1099511627776 ∧ e = 0 ∧ ∃ K, IsK c (needOf c.sum part of) K ∧ v = 2 ^ K - 1)
theorem BelAns.uniq {c : List Nat} {part of v e v' e' : Nat} (h : BelAns c part of v e) (k : BelAns c part of v' e') : v = v' ∧ e = e' := by
  rcases h with ⟨h1, rfl, rfl⟩ | ⟨h1, h2, rfl, rfl⟩ | ⟨h1, h2, rfl, K, hK, rfl⟩ <;> rcases k with ⟨k1, rfl, rfl⟩ | ⟨k1, k2, rfl, rfl⟩ | ⟨k1, k2, rfl, K', hK', rfl⟩
  · exact ⟨rfl, rfl⟩
  · exact absurd h1 k1
  · exact absurd h1 k1
  · exact absurd k1 h1
  · exact ⟨rfl, rfl⟩
  · omega
  · exact absurd k1 h1
  · omega
  · rw [hK.uniq hK']; exact ⟨rfl, rfl⟩
theorem sum_take_succ {c : List Nat} {k : Nat} (h : k < c.length) : (c.take (k + 1)).sum = (c.take k).sum + c[k]?.getD 0 := by
  rw [List.take_add_one, List.getElem?_eq_getElem h, List.sum_append_nat]
  simp only [Option.toList_some, List.sum_cons, List.sum_nil, Nat.add_zero, Option.getD_some]
theorem sum_take_le (c : List Nat) (k : Nat) : (c.take k).sum ≤ c.sum := by
  have := congrArg List.sum (List.take_append_drop k c)
  rw [List.sum_append_nat] at this
  omega
theorem upto_succ {c : List Nat} {k : Nat} (h : k + 1 < c.length) : upto c (k + 1) = upto c k + c[k + 1]?.getD 0 := sum_take_succ h
theorem upto_last {c : List Nat} (h : c.length = 65) : upto c 64 = c.sum := by
  unfold upto
  rw [List.take_of_length_le (by omega)]
theorem upto_le (c : List Nat) (k : Nat) : upto c k ≤ c.sum := sum_take_le c _
theorem need_le {s part of : Nat} (h : ¬ BadArg part of) : needOf s part of ≤ s := by
  unfold BadArg at h
  unfold needOf
  have h0 : 0 < of := by omega
  have h1 : part ≤ of := by omega
  have h2 : s * part ≤ s * of := Nat.mul_le_mul_left s h1
  have : (s * part + of - 1) / of < s + 1 := by
    rw [Nat.div_lt_iff_lt_mul h0, Nat.add_mul, Nat.one_mul]
    omega
  omega
/-- the reference's way to round up -/
theorem need_ref {s part of : Nat} (h : 0 < of) : needOf s part of = s * part / of + (if s * part % of = 0 then 0 else 1) := by
  unfold needOf
  have e := Nat.div_add_mod (s * part) of
  have hm := Nat.mod_lt (s * part) h
  generalize s * part / of = q at *
  generalize s * part % of = r at *
  generalize s * part = t at *
  subst e
  rcases Nat.eq_zero_or_pos r with hr | hr
  · subst hr
    rw [if_pos rfl]
    have : of * q + 0 + of - 1 = (of - 1) + of * q := by omega
    rw [this, Nat.add_mul_div_left _ _ h, Nat.div_eq_of_lt (by omega)]
    omega
  · rw [if_neg (by omega)]
    have : of * q + r + of - 1 = (r - 1) + of * (q + 1) := by rw [Nat.mul_add, Nat.mul_one]; omega
    rw [this, Nat.add_mul_div_left _ _ h, Nat.div_eq_of_lt (by omega)]
    omega
theorem zero_sum {c : List Nat} (h : c = List.replicate 65 0) : c.sum = 0 := by subst h; simp
theorem need_zero {part of : Nat} (h : 0 < of) : needOf 0 part of = 0 := by
  unfold needOf
  rw [Nat.zero_mul, Nat.zero_add, Nat.div_eq_of_lt (by omega)]
theorem isK_zero (c : List Nat) : IsK c 0 0 := ⟨by omega, fun j hj => by omega, Nat.zero_le _⟩
theorem pow_of : ∀ K : Fin 65, ((1 * 2 ^ K.val) % 18446744073709551616 + (18446744073709551616 - 1)) % 18446744073709551616 = 2 ^ K.val - 1 := by decide +kernel
theorem pow_twice : ∀ K : Fin 64, (((2 * (2 ^ K.val - 1)) % 18446744073709551616) + 1) % 18446744073709551616 = 2 ^ (K.val + 1) - 1 := by decide +kernel
theorem pow_small : ∀ K : Fin 65, 2 ^ K.val - 1 < 18446744073709551616 := by decide +kernel
end Go.Proofs.Ytekglcphdjjmcaa.th
