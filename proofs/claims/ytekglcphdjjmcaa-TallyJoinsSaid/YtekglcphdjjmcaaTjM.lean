/-
  The histogram to which numbers came, plainly: joined, and what Below tells of it.
-/
import Derived.Test.YtekglcphdjjmcaaBl
import Derived.Test.YtekglcphdjjmcaaThA
set_option linter.unusedVariables false
namespace Go.Proofs.Ytekglcphdjjmcaa.th
open Go.RowKit Go.Proofs.Ytekglcphdjjmcaa.oc Go.Proofs.Ytekglcphdjjmcaa.mz
/-- how many numbers have k bits -/
def cnt (l : List Nat) (k : Nat) : Nat := l.countP (fun x => Lib.bitLen x == k)
def most (l : List Nat) : Nat := l.foldr max 0
def hw (l : List Nat) (k : Nat) : Nat := if k < 65 then cnt l k % W64 else if k = 65 then l.sum % W64 else most l
/-- the histogram's words -/
def hl (l : List Nat) : List Nat := (List.range 67).map (hw l)
theorem hl_len (l : List Nat) : (hl l).length = 67 := by simp [hl]
theorem hl_at (l : List Nat) {k : Nat} (h : k < 67) : (hl l)[k]? = some (hw l k) := by simp [hl, h]
theorem most_append (a b : List Nat) : most (a ++ b) = max (most a) (most b) := by
  unfold most
  induction a with
  | nil => simp
  | cons x r ih => simp only [List.cons_append, List.foldr_cons, ih]; omega
theorem most_lt {l : List Nat} (h : ∀ x ∈ l, x < 18446744073709551616) : most l < 18446744073709551616 := by
  unfold most
  induction l with
  | nil => simp
  | cons x r ih =>
    have := h x (by simp)
    have := ih (fun y hy => h y (by simp [hy]))
    simp only [List.foldr_cons]; omega
theorem cnt_append (a b : List Nat) (k : Nat) : cnt (a ++ b) k = cnt a k + cnt b k := by simp [cnt]
theorem hl_nil : hl [] = List.replicate 67 0 := by
  apply List.ext_getElem?
  intro k
  rcases Nat.lt_or_ge k 67 with q | q
  · rw [hl_at _ q, List.getElem?_replicate, if_pos q]
    simp [hw, cnt, most]
  · rw [List.getElem?_eq_none (by rw [hl_len]; exact q), List.getElem?_eq_none (by simpa using q)]
theorem hw_lt {l : List Nat} (h : ∀ x ∈ l, x < 18446744073709551616) (k : Nat) : hw l k < 18446744073709551616 := by
  unfold hw
  split
  · exact mod_lt64 _
  · split
    · exact mod_lt64 _
    · exact most_lt h
theorem hl_lt {l : List Nat} (h : ∀ x ∈ l, x < 18446744073709551616) : ∀ y ∈ hl l, y < 18446744073709551616 := fun y hy => by
  simp only [hl, List.mem_map] at hy
  obtain ⟨k, _, rfl⟩ := hy
  exact hw_lt h k
theorem jn_hl (a b : List Nat) : jn (hl a) (hl b) = hl (a ++ b) := by
  unfold jn
  show _ = (List.range 67).map (hw (a ++ b))
  apply List.map_congr_left
  intro k hk
  have hk' : k < 67 := by simpa using hk
  unfold jw
  rw [hl_at a hk', hl_at b hk']
  simp only [Option.getD_some]
  unfold hw
  rcases Nat.lt_or_ge k 65 with q | q
  · have q66 : k < 66 := by omega
    simp only [q, q66, if_true]
    rw [cnt_append, ← Nat.add_mod]
  · have nq : ¬ k < 65 := by omega
    rcases Nat.lt_or_ge k 66 with r | r
    · have e : k = 65 := by omega
      subst e
      simp only [nq, r, if_true, if_false]
      rw [List.sum_append_nat, ← Nat.add_mod]
    · have nr : ¬ k < 66 := by omega
      have ne : ¬ k = 65 := by omega
      simp only [nq, nr, ne, if_false]
      rw [most_append]
theorem hw_comm (a b : List Nat) (k : Nat) : hw (a ++ b) k = hw (b ++ a) k := by
  unfold hw
  rw [cnt_append, cnt_append, List.sum_append_nat, List.sum_append_nat, most_append, most_append, Nat.add_comm (cnt a k), Nat.add_comm a.sum, Nat.max_comm]
theorem hl_comm (a b : List Nat) : hl (a ++ b) = hl (b ++ a) := by
  unfold hl
  exact List.map_congr_left (fun k _ => hw_comm a b k)
theorem joined_hl (rows : List (List Nat)) : joined (rows.map hl) = hl rows.flatten := by
  have gen : ∀ (rows : List (List Nat)) (a : List Nat), (rows.map hl).foldl jn (hl a) = hl (a ++ rows.flatten) := by
    intro rows
    induction rows with
    | nil => intro a; simp
    | cons r t ih => intro a; simp only [List.map_cons, List.foldl_cons, jn_hl, ih, List.flatten_cons, List.append_assoc]
  unfold joined
  rw [← hl_nil, gen, List.nil_append]
/-- joined the other way round -/
theorem joined_back (a b : List Nat) : joined [hl a, hl b] = hl (b ++ a) := by
  have := joined_hl [a, b]
  rw [show [a, b].flatten = a ++ b by simp] at this
  simp only [List.map_cons, List.map_nil] at this
  rw [this, hl_comm]
/-- the object's words: all but the last one -/
def hs (l : List Nat) : List Nat := (hl l).take 66
theorem hs_len (l : List Nat) : (hs l).length = 66 := by simp [hs, hl_len]
theorem hs_hl (l : List Nat) : hs l ++ [most l] = hl l := by
  have h := List.take_append_drop 66 (hl l)
  rw [List.drop_eq_getElem_cons (by rw [hl_len]; omega), List.drop_eq_nil_of_le (by rw [hl_len]; omega)] at h
  have e : (hl l)[66]'(by rw [hl_len]; omega) = most l := by
    have := hl_at l (k := 66) (by omega)
    rw [List.getElem?_eq_getElem (by rw [hl_len]; omega)] at this
    exact (Option.some.inj this).trans rfl
  rw [e] at h
  exact h
theorem hs_at (l : List Nat) {k : Nat} (h : k < 66) : (hs l)[k]? = some (hw l k) := by
  unfold hs
  rw [List.getElem?_take, if_pos h, hl_at l (by omega)]
theorem hs_nil : hs [] = List.replicate 66 0 := by unfold hs; rw [hl_nil]; first | done | rfl
theorem come_hs (l : List Nat) (v : Nat) (hv : v < 18446744073709551616) : come v (hs l) = hs (l ++ [v]) := by
  have hb := ln.bits_64 v hv
  apply List.ext_getElem?
  intro k
  rcases Nat.lt_or_ge k 66 with q | q
  · rw [hs_at _ q]
    have h65 : (one v (hs l))[65]? = some (hw l 65) := by
      unfold one
      rw [List.getElem?_set_ne (by omega), hs_at l (by omega)]
    unfold come
    rw [h65]
    by_cases e : k = 65
    · subst e
      rw [List.getElem?_set_self (by simp [one, hs_len])]
      simp [hw]
    · rw [List.getElem?_set_ne (by omega)]
      unfold one
      by_cases e2 : Lib.bitLen v = k
      · subst e2
        rw [List.getElem?_set_self (by rw [hs_len]; exact q), hs_at l q]
        have hk : Lib.bitLen v < 65 := by omega
        simp [hw, hk, cnt]
      · rw [List.getElem?_set_ne e2, hs_at l q]
        have hk : k < 65 := by omega
        simp [hw, hk, cnt, e2]
  · rw [List.getElem?_eq_none (by rw [come_len, hs_len]; exact q), List.getElem?_eq_none (by rw [hs_len]; exact q)]
theorem most_snoc (l : List Nat) (v : Nat) : max (most l) v = most (l ++ [v]) := by rw [most_append]; simp [most]
/-- the counts of few numbers -/
theorem counts_at {l : List Nat} (hn : l.length < 1000) {k : Nat} (h : k < 65) : ((hl l).take 65)[k]? = some (cnt l k) := by
  have : cnt l k ≤ l.length := List.countP_le_length
  rw [List.getElem?_take, if_pos h, hl_at l (by omega), hw, if_pos h, Nat.mod_eq_of_lt (by rw [W64_eq]; omega)]
theorem upto_cnt {l : List Nat} (hn : l.length < 1000) : ∀ (k : Nat), k < 65 → upto ((hl l).take 65) k = l.countP (fun x => decide (Lib.bitLen x ≤ k)) := by
  intro k
  induction k with
  | zero =>
    intro _
    unfold upto
    rw [sum_take_succ (by rw [List.length_take, hl_len]; omega), counts_at hn (by omega)]
    simp only [List.take_zero, List.sum_nil, Nat.zero_add, Option.getD_some, cnt]
    congr 1
    funext x
    rw [Bool.eq_iff_iff]; simp
  | succ k ih =>
    intro hk
    rw [upto_succ (by rw [List.length_take, hl_len]; omega), ih (by omega), counts_at hn hk]
    simp only [Option.getD_some, cnt]
    clear ih
    induction l with
    | nil => simp
    | cons x r ih =>
      have := ih (by simp at hn; omega)
      simp only [List.countP_cons]
      rcases Nat.lt_trichotomy (Lib.bitLen x) (k + 1) with q | q | q
      · have a1 : decide (Lib.bitLen x ≤ k) = true := by simp; omega
        have a2 : (Lib.bitLen x == k + 1) = false := by simp; omega
        have a3 : decide (Lib.bitLen x ≤ k + 1) = true := by simp; omega
        simp only [a1, a2, a3, if_true, Bool.false_eq_true, if_false]; omega
      · have a1 : decide (Lib.bitLen x ≤ k) = false := by simp; omega
        have a2 : (Lib.bitLen x == k + 1) = true := by simp; omega
        have a3 : decide (Lib.bitLen x ≤ k + 1) = true := by simp; omega
        simp only [a1, a2, a3, if_true, Bool.false_eq_true, if_false]; omega
      · have a1 : decide (Lib.bitLen x ≤ k) = false := by simp; omega
        have a2 : (Lib.bitLen x == k + 1) = false := by simp; omega
        have a3 : decide (Lib.bitLen x ≤ k + 1) = false := by simp; omega
        simp only [a1, a2, a3, Bool.false_eq_true, if_false]; omega
/-- how many numbers are not above v -/
def atMost (l : List Nat) (v : Nat) : Nat := l.countP (fun x => decide (x ≤ v))
theorem upto_most {l : List Nat} (hn : l.length < 1000) (h64 : ∀ x ∈ l, x < 18446744073709551616) {k : Nat} (h : k < 65) : upto ((hl l).take 65) k = atMost l (2 ^ k - 1) := by
  rw [upto_cnt hn k h]
  unfold atMost
  apply List.countP_congr
  intro x hx
  have := ln.bits_le k x (h64 x hx)
  have hp : 0 < 2 ^ k := Nat.pow_pos (by omega)
  simp only [decide_eq_true_eq, this]
  omega
theorem counts_sum {l : List Nat} (hn : l.length < 1000) (h64 : ∀ x ∈ l, x < 18446744073709551616) : ((hl l).take 65).sum = l.length := by
  rw [← upto_last (by rw [List.length_take, hl_len]; rfl), upto_cnt hn 64 (by omega)]
  apply List.countP_eq_length.2
  intro x hx
  simpa using ln.bits_64 x (h64 x hx)
/-- what Below tells of numbers that came -/
theorem below_says {l : List Nat} {part of v e : Nat} (hn : l.length < 1000) (h64 : ∀ x ∈ l, x < 18446744073709551616) (h : BelAns ((hl l).take 65) part of v e) (hb : ¬ BadArg part of) :
    e = 0 ∧ (∃ K, K < 65 ∧ v = 2 ^ K - 1) ∧ l.length * part ≤ atMost l v * of ∧ (v = 0 ∨ atMost l (v / 2) * of < l.length * part) := by
  have hsum := counts_sum hn h64
  rcases h with ⟨h1, _⟩ | ⟨_, h2, _⟩ | ⟨_, _, he, K, hK, rfl⟩
  · exact absurd h1 hb
  · rw [hsum] at h2; omega
  · rw [hsum] at hK
    obtain ⟨k1, k2, k3⟩ := hK
    have hof : 0 < of := by unfold BadArg at hb; omega
    have hlow : l.length * part ≤ needOf l.length part of * of := by
      unfold needOf
      have := Nat.div_add_mod (l.length * part + of - 1) of
      have hm := Nat.mod_lt (l.length * part + of - 1) hof
      rw [Nat.mul_comm of] at this
      generalize l.length * part = t at *
      generalize (t + of - 1) / of * of = s at *
      omega
    have hhigh : ∀ m, m < needOf l.length part of → m * of < l.length * part := fun m hm => by
      unfold needOf at hm
      have h1 : (m + 1) * of ≤ l.length * part + of - 1 := by
        have := (Nat.le_div_iff_mul_le hof).1 (show m + 1 ≤ (l.length * part + of - 1) / of from hm)
        exact this
      rw [Nat.add_mul, Nat.one_mul] at h1
      omega
    refine ⟨he, ⟨K, k1, rfl⟩, ?_, ?_⟩
    · rw [upto_most hn h64 k1] at k3
      exact Nat.le_trans hlow (Nat.mul_le_mul_right of k3)
    · cases K with
      | zero => exact .inl rfl
      | succ K =>
        refine .inr ?_
        have e2 : (2 ^ (K + 1) - 1) / 2 = 2 ^ K - 1 := by rw [Nat.pow_succ]; omega
        rw [e2, ← upto_most hn h64 (show K < 65 by omega)]
        exact hhigh _ (k2 K (by omega))
/-- the answer rises with the part -/
theorem below_rises {l : List Nat} {part of v e v' e' : Nat} (hn : l.length < 1000) (h64 : ∀ x ∈ l, x < 18446744073709551616) (h : BelAns ((hl l).take 65) part of v e) (h' : BelAns ((hl l).take 65) of of v' e') (hb : ¬ BadArg part of) : v ≤ v' := by
  have hsum := counts_sum hn h64
  have hb' : ¬ BadArg of of := by unfold BadArg at hb ⊢; omega
  rcases h with ⟨h1, _⟩ | ⟨_, h2, _⟩ | ⟨_, _, _, K, hK, rfl⟩
  · exact absurd h1 hb
  · rw [hsum] at h2; omega
  · rcases h' with ⟨h1, _⟩ | ⟨_, h2, _⟩ | ⟨_, _, _, K', hK', rfl⟩
    · exact absurd h1 hb'
    · rw [hsum] at h2; omega
    · have hle : needOf ((hl l).take 65).sum part of ≤ needOf ((hl l).take 65).sum of of := by
        unfold needOf
        have : part ≤ of := by unfold BadArg at hb; omega
        apply Nat.div_le_div_right
        have := Nat.mul_le_mul_left ((hl l).take 65).sum this
        omega
      have hKK : K ≤ K' := by
        rcases Nat.lt_or_ge K' K with q | q
        · have := hK.2.1 K' q; have := hK'.2.2; omega
        · exact q
      have := Nat.pow_le_pow_right (show 0 < 2 by omega) hKK
      omega
end Go.Proofs.Ytekglcphdjjmcaa.th
