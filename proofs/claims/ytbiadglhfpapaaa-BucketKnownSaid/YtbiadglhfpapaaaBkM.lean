/-
  Buckets, plainly: never more than the bucket says (P12.7); all that can be (P12.8). Nothing of functions.
-/
import Derived.Test.YtbiadglhfpapaaaBkG
set_option linter.unusedVariables false
namespace Go.Proofs.Ytbiadglhfpapaaa.bk
/-- the state behind the first k of what was let through -/
def st (n d s : Nat) (l : List (Nat × Nat)) : Nat → Nat
  | 0 => s
  | k + 1 => max (st n d s l k) ((l.getD k (0, 0)).1 * n) + (l.getD k (0, 0)).2 * d
/-- each was let through -/
def Good (n d b s : Nat) (l : List (Nat × Nat)) : Prop := ∀ k, k < l.length → (st n d s l k - (l.getD k (0, 0)).1 * n) + (l.getD k (0, 0)).2 * d ≤ b * d
theorem getD_left (l : List (Nat × Nat)) (p : Nat × Nat) {k : Nat} (h : k < l.length) : (l ++ [p]).getD k (0, 0) = l.getD k (0, 0) := by
  rw [List.getD_eq_getElem?_getD, List.getD_eq_getElem?_getD, List.getElem?_append_left h]
theorem getD_last (l : List (Nat × Nat)) (p : Nat × Nat) : (l ++ [p]).getD l.length (0, 0) = p := by
  rw [List.getD_eq_getElem?_getD, List.getElem?_append_right (Nat.le_refl _), Nat.sub_self]; rfl
theorem st_left (n d s : Nat) (l : List (Nat × Nat)) (p : Nat × Nat) : ∀ k, k ≤ l.length → st n d s (l ++ [p]) k = st n d s l k
  | 0, _ => rfl
  | k + 1, h => by rw [st, st, getD_left l p h, st_left n d s l p k (by omega)]
theorem st_snoc (n d s : Nat) (l : List (Nat × Nat)) (p : Nat × Nat) : st n d s (l ++ [p]) (l.length + 1) = max (st n d s l l.length) (p.1 * n) + p.2 * d := by
  rw [st, getD_last, st_left n d s l p _ (Nat.le_refl _)]
theorem sum_left (l : List (Nat × Nat)) (p : Nat × Nat) (f t : Nat) : ∀ k, k ≤ l.length → sumIn (l ++ [p]) f t k = sumIn l f t k
  | 0, _ => rfl
  | k + 1, h => by rw [sumIn, sumIn, getD_left l p h, sum_left l p f t k (by omega)]
theorem good_snoc {n d b s : Nat} {l : List (Nat × Nat)} {p : Nat × Nat} (h : Good n d b s l) (hp : (st n d s l l.length - p.1 * n) + p.2 * d ≤ b * d) : Good n d b s (l ++ [p]) := by
  intro k hk
  rw [List.length_append, List.length_singleton] at hk
  rcases Nat.lt_or_ge k l.length with q | q
  · rw [getD_left l p q, st_left n d s l p k (by omega)]; exact h k q
  · have e : k = l.length := by omega
    subst e
    rw [getD_last, st_left n d s l p _ (Nat.le_refl _)]; exact hp
/-- what a stretch holds lies below the state -/
theorem below {n d s : Nat} {l : List (Nat × Nat)} {F T : Nat} : ∀ k, k ≤ l.length → sumIn l F T k * d ≤ st n d s l k - F * n
  | 0, _ => by rw [sumIn, Nat.zero_mul]; exact Nat.zero_le _
  | k + 1, h => by
    have ih := below (n := n) (d := d) (s := s) (l := l) (F := F) (T := T) k (by omega)
    rw [sumIn, st, Nat.add_mul]
    generalize hp : l.getD k (0, 0) = p at *
    by_cases hin : F ≤ p.1 ∧ p.1 ≤ T
    · rw [if_pos hin]
      have h1 : F * n ≤ p.1 * n := Nat.mul_le_mul hin.1 (Nat.le_refl n)
      omega
    · rw [if_neg hin, Nat.zero_mul]
      omega
/-- never more -/
theorem most_of {n d b s : Nat} {l : List (Nat × Nat)} (hg : Good n d b s l) {F T : Nat} (hFT : F ≤ T) : ∀ k, k ≤ l.length → sumIn l F T k * d ≤ (T - F) * n + b * d
  | 0, _ => by rw [sumIn, Nat.zero_mul]; exact Nat.zero_le _
  | k + 1, h => by
    have ih := most_of hg hFT k (by omega)
    have hb := below (n := n) (d := d) (s := s) (l := l) (F := F) (T := T) (k + 1) h
    have hk := hg k h
    rw [st] at hb
    rw [sumIn] at hb ⊢
    generalize hp : l.getD k (0, 0) = p at *
    by_cases hin : F ≤ p.1 ∧ p.1 ≤ T
    · rw [if_pos hin] at hb ⊢
      have h1 : F * n ≤ p.1 * n := Nat.mul_le_mul hin.1 (Nat.le_refl n)
      have h2 : p.1 * n - F * n ≤ (T - F) * n := by
        rw [← Nat.sub_mul]; exact Nat.mul_le_mul (by omega) (Nat.le_refl n)
      omega
    · rw [if_neg hin, Nat.add_zero]; exact ih
theorem le_most {x n d b y : Nat} (hd : 0 < d) (h : x * d ≤ y * n + b * d) : x ≤ b + y * n / d := by
  have h1 : x ≤ (y * n + b * d) / d := (Nat.le_div_iff_mul_le hd).2 h
  rwa [Nat.add_mul_div_right _ _ hd, Nat.add_comm] at h1
theorem most_lt {x n d b y : Nat} (hd : 0 < d) (h : y * n + b * d < x * d) : b + y * n / d < x := by
  rcases Nat.lt_or_ge (b + y * n / d) x with q | q
  · exact q
  · exfalso
    have h1 : x * d ≤ (b + y * n / d) * d := Nat.mul_le_mul q (Nat.le_refl d)
    rw [Nat.add_mul] at h1
    have h2 : y * n / d * d ≤ y * n := Nat.div_mul_le_self _ _
    omega
/-- of what was let through no stretch is too full -/
theorem never {n d b s : Nat} {l : List (Nat × Nat)} (hd : 0 < d) (hg : Good n d b s l) (i : Nat) (hi : i < l.length) : ¬ Full n d b l i := by
  rintro ⟨f, t, hf, ht, h1, h2, h3⟩
  have := le_most hd (most_of hg (Nat.le_trans h1 h2) (i + 1) hi)
  omega
theorem never_fits {n d b s : Nat} {l : List (Nat × Nat)} (hd : 0 < d) (hg : Good n d b s l) : IsFits n d b l l.length := ⟨Nat.le_refl _, fun j hj => never hd hg j hj, fun h => absurd h (Nat.lt_irrefl _)⟩
/-- what stands ahead of a place does not hang on what comes behind -/
theorem full_left {n d b : Nat} {l : List (Nat × Nat)} {p : Nat × Nat} {j : Nat} (hj : j < l.length) : Full n d b (l ++ [p]) j → Full n d b l j := by
  rintro ⟨f, t, hf, ht, h1, h2, h3⟩
  rw [getD_left l p (show f < l.length by omega), getD_left l p hj] at h1
  rw [getD_left l p (show t < l.length by omega), getD_left l p hj] at h2
  rw [getD_left l p (show f < l.length by omega), getD_left l p (show t < l.length by omega), sum_left l p _ _ (j + 1) hj] at h3
  exact ⟨f, t, hf, ht, h1, h2, h3⟩
/-- the state grows from behind f on -/
theorem grows {n d s : Nat} {l : List (Nat × Nat)} {T f : Nat} (hfl : f < l.length) (hf : st n d s l f ≤ (l.getD f (0, 0)).1 * n) (hin : ∀ j, f ≤ j → j < l.length → (l.getD f (0, 0)).1 ≤ (l.getD j (0, 0)).1 ∧ (l.getD j (0, 0)).1 ≤ T) (hup : ∀ j, f < j → j < l.length → (l.getD j (0, 0)).1 * n ≤ st n d s l j) : ∀ k, f + 1 + k ≤ l.length → st n d s l (f + 1 + k) ≤ (l.getD f (0, 0)).1 * n + sumIn l (l.getD f (0, 0)).1 T (f + 1 + k) * d
  | 0, _ => by
    rw [Nat.add_zero, st, sumIn, if_pos (hin f (Nat.le_refl _) hfl), Nat.add_mul]
    omega
  | k + 1, h => by
    have ih := grows hfl hf hin hup k (by omega)
    have h1 := hin (f + 1 + k) (by omega) (by omega)
    have h2 := hup (f + 1 + k) (by omega) (by omega)
    rw [← Nat.add_assoc, st, sumIn, if_pos h1, Nat.add_mul]
    omega
/-- the last place at which the state stood at the clock -/
theorem last_at {n d : Nat} {l : List (Nat × Nat)} : ∀ N, N ≤ l.length → 0 < N → ∃ f, f < N ∧ st n d 0 l f ≤ (l.getD f (0, 0)).1 * n ∧ ∀ j, f < j → j < N → (l.getD j (0, 0)).1 * n ≤ st n d 0 l j
  | 0, _, h => absurd h (Nat.lt_irrefl _)
  | 1, _, _ => ⟨0, Nat.zero_lt_one, Nat.zero_le _, fun j h1 h2 => by omega⟩
  | N + 2, h, _ => by
    rcases Nat.lt_or_ge ((l.getD (N + 1) (0, 0)).1 * n) (st n d 0 l (N + 1)) with q | q
    · obtain ⟨f, h1, h2, h3⟩ := last_at (n := n) (d := d) (l := l) (N + 1) (by omega) (by omega)
      exact ⟨f, by omega, h2, fun j j1 j2 => by
        rcases Nat.lt_or_ge j (N + 1) with r | r
        · exact h3 j j1 r
        · have e : j = N + 1 := by omega
          subst e; exact Nat.le_of_lt q⟩
    · exact ⟨N + 1, by omega, q, fun j j1 j2 => by omega⟩
/-- all that can be: what is refused would have made some stretch too full -/
theorem all_full {n d b now k : Nat} {l : List (Nat × Nat)} (hd : 0 < d) (hmono : ∀ i j, i ≤ j → j < l.length → (l.getD i (0, 0)).1 ≤ (l.getD j (0, 0)).1) (hnow : ∀ j, j < l.length → (l.getD j (0, 0)).1 ≤ now) (hno : b * d < (st n d 0 l l.length - now * n) + k * d) : Full n d b (l ++ [(now, k)]) l.length := by
  rcases Nat.lt_or_ge (now * n) (st n d 0 l l.length) with hS | hS
  · have hN : 0 < l.length := by
      rcases Nat.eq_zero_or_pos l.length with q | q
      · rw [q, st] at hS; exact absurd hS (Nat.not_lt_zero _)
      · exact q
    obtain ⟨f, f1, f2, f3⟩ := last_at (n := n) (d := d) (l := l) l.length (Nat.le_refl _) hN
    have hg := grows (T := now) f1 f2 (fun j j1 j2 => ⟨hmono f j j1 j2, hnow j j2⟩) f3 (l.length - (f + 1)) (by omega)
    rw [show f + 1 + (l.length - (f + 1)) = l.length from by omega] at hg
    refine ⟨f, l.length, by omega, Nat.le_refl _, ?_, Nat.le_refl _, ?_⟩
    · rw [getD_left l _ f1, getD_last]; exact hnow f f1
    · rw [getD_left l _ f1, getD_last, sumIn, getD_last, sum_left l _ _ _ _ (Nat.le_refl _), if_pos ⟨hnow f f1, Nat.le_refl _⟩]
      refine most_lt hd ?_
      have h1 : (l.getD f (0, 0)).1 * n ≤ now * n := Nat.mul_le_mul (hnow f f1) (Nat.le_refl n)
      rw [Nat.sub_mul, Nat.add_mul]
      simp only
      omega
  · refine ⟨l.length, l.length, Nat.le_refl _, Nat.le_refl _, Nat.le_refl _, Nat.le_refl _, ?_⟩
    rw [getD_last, sumIn, getD_last, if_pos ⟨Nat.le_refl _, Nat.le_refl _⟩, Nat.sub_self]
    refine most_lt hd ?_
    rw [Nat.add_mul, Nat.zero_mul]
    simp only
    omega
/-- of what was let through, and a further ask that is refused, the first place is the ask's -/
theorem all_fits {n d b now k : Nat} {l : List (Nat × Nat)} (hd : 0 < d) (hg : Good n d b 0 l) (hmono : ∀ i j, i ≤ j → j < l.length → (l.getD i (0, 0)).1 ≤ (l.getD j (0, 0)).1) (hnow : ∀ j, j < l.length → (l.getD j (0, 0)).1 ≤ now) (hno : b * d < (st n d 0 l l.length - now * n) + k * d) : IsFits n d b (l ++ [(now, k)]) l.length :=
  ⟨by simp, fun j hj h => never hd hg j hj (full_left hj h), fun _ => all_full hd hmono hnow hno⟩
/-- Take and the state -/
theorem take_st {n d b s now k : Nat} (hm : May n d b) (ht : now ≤ 1099511627776) (hl : lets n d b s now k = true) : takeOf n d b s now k = max s (now * n) + k * d ∧ (s - now * n) + k * d ≤ b * d := by
  have h1 : (s - now * n) + k * d ≤ b * d := by unfold lets at hl; rw [aOf_eq] at hl; simpa using hl
  have h2 : now * n ≤ 1099511627776 * 65536 := Nat.mul_le_mul ht hm.1.2
  have h3 : b * d ≤ 1048576 * 65536 := Nat.mul_le_mul hm.2.2.2 hm.2.1.2
  refine ⟨?_, h1⟩
  unfold takeOf tOf
  rw [if_pos hl, Nat.mod_eq_of_lt (by omega)]
theorem take_st_no {n d b s now k : Nat} (hl : lets n d b s now k = false) : takeOf n d b s now k = s ∧ b * d < (s - now * n) + k * d := by
  have h1 : b * d < (s - now * n) + k * d := by unfold lets at hl; rw [aOf_eq] at hl; simpa using hl
  exact ⟨by unfold takeOf; rw [hl]; rfl, h1⟩
/-- Take says true of k above 0 just if k is at most Level -/
theorem lets_level {n d b s now k : Nat} (hd : 0 < d) (hk : 0 < k) : lets n d b s now k = decide (k ≤ level n d b s now) := by
  unfold lets level
  apply decide_eq_decide.2
  rw [Nat.le_div_iff_mul_le hd]
  have : d ≤ k * d := Nat.le_mul_of_pos_left d hk
  omega
theorem level_le {n d b s now : Nat} (hd : 0 < d) : level n d b s now ≤ b := by
  unfold level
  exact Nat.div_le_of_le_mul (by rw [Nat.mul_comm]; exact Nat.sub_le _ _)
theorem level_mono {n d b s t u : Nat} (h : t ≤ u) : level n d b s t ≤ level n d b s u := by
  unfold level
  apply Nat.div_le_div_right
  rw [aOf_eq, aOf_eq]
  have : t * n ≤ u * n := Nat.mul_le_mul h (Nat.le_refl n)
  omega
/-- what flows in -/
theorem level_flow {n d b s t e : Nat} (hd : 0 < d) : level n d b s (t + e) ≤ level n d b s t + e * n / d + 1 := by
  unfold level
  rw [aOf_eq, aOf_eq, Nat.add_mul]
  generalize t * n = x
  generalize e * n = y
  have h1 : b * d - (s - (x + y)) ≤ (b * d - (s - x)) + y + (d - 1) ∨ b * d < s - x := by omega
  have hx := Nat.div_add_mod (b * d - (s - x)) d
  have hy := Nat.div_add_mod y d
  have mx := Nat.mod_lt (b * d - (s - x)) hd
  have my := Nat.mod_lt y hd
  have key : (b * d - (s - (x + y))) ≤ (b * d - (s - x)) + y := by omega
  refine Nat.le_of_lt_succ ((Nat.div_lt_iff_lt_mul hd).2 ?_)
  rw [Nat.succ_mul, Nat.add_mul, Nat.add_mul, Nat.one_mul, Nat.mul_comm (_ / d) d, Nat.mul_comm (y / d) d]
  omega
end Go.Proofs.Ytbiadglhfpapaaa.bk
