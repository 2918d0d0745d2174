/-
  What passed, taken by rising ticks: one is refused just where some stretch is too full. Nothing of functions.
-/
import Derived.Test.YtbiadglhfpapaaaBkM
set_option linter.unusedVariables false
namespace Go.Proofs.Ytbiadglhfpapaaa.bk
def inS (F T : Nat) (p : Nat × Nat) : Nat := if F ≤ p.1 ∧ p.1 ≤ T then p.2 else 0
theorem sumIn_map (l : List (Nat × Nat)) (F T : Nat) : ∀ k, k ≤ l.length → sumIn l F T k = ((l.take k).map (inS F T)).sum
  | 0, _ => by simp [sumIn]
  | k + 1, h => by
    have hk : k < l.length := by omega
    rw [sumIn, sumIn_map l F T k (by omega), List.take_add_one, List.getElem?_eq_getElem hk, List.map_append, List.sum_append, List.getD_eq_getElem?_getD, List.getElem?_eq_getElem hk]
    simp [inS]
theorem sumIn_all (l : List (Nat × Nat)) (F T : Nat) : sumIn l F T l.length = (l.map (inS F T)).sum := by rw [sumIn_map l F T _ (Nat.le_refl _), List.take_length]
theorem sumIn_perm {q l : List (Nat × Nat)} (h : q.Perm l) (F T : Nat) : sumIn q F T q.length = sumIn l F T l.length := by
  rw [sumIn_all, sumIn_all]; exact (h.map _).sum_nat
theorem sumIn_take {l : List (Nat × Nat)} {N : Nat} (h : N ≤ l.length) (F T : Nat) : sumIn (l.take N) F T (l.take N).length = sumIn l F T N := by
  rw [sumIn_all, sumIn_map l F T N h]
theorem sumIn_mono (l : List (Nat × Nat)) (F T : Nat) {i : Nat} : ∀ j, i ≤ j → sumIn l F T i ≤ sumIn l F T j
  | 0, h => by rw [Nat.le_zero.1 h]; exact Nat.le_refl _
  | j + 1, h => by
    rcases Nat.lt_or_ge i (j + 1) with q | q
    · have := sumIn_mono l F T j (show i ≤ j by omega)
      rw [sumIn]; omega
    · rw [show i = j + 1 from by omega]; exact Nat.le_refl _
/-- all are let through: no stretch is too full -/
theorem tf_no {n d b N : Nat} {q l : List (Nat × Nat)} (hd : 0 < d) (hN : N < l.length) (hp : q.Perm (l.take (N + 1))) (hg : Good n d b 0 q) : ∀ j, j ≤ N → ¬ Full n d b l j := by
  rintro j hj ⟨f, t, hf, ht, h1, h2, h3⟩
  have e1 := le_most hd (most_of hg (Nat.le_trans h1 h2) q.length (Nat.le_refl _))
  rw [sumIn_perm hp, sumIn_take (show N + 1 ≤ l.length from hN)] at e1
  have e2 := sumIn_mono l (l.getD f (0, 0)).1 (l.getD t (0, 0)).1 (N + 1) (show j + 1 ≤ N + 1 by omega)
  omega
/-- the last place at which a stretch has something -/
theorem last_in (P : Nat → Prop) : ∀ N f, f ≤ N → P f → ∃ j, j ≤ N ∧ f ≤ j ∧ P j ∧ ∀ i, j < i → i ≤ N → ¬ P i
  | 0, f, h, hp => ⟨f, h, Nat.le_refl _, hp, fun i h1 h2 => by omega⟩
  | N + 1, f, h, hp => by
    by_cases hq : P (N + 1)
    · exact ⟨N + 1, Nat.le_refl _, h, hq, fun i h1 h2 => by omega⟩
    · have hfN : f ≤ N := by
        rcases Nat.lt_or_ge N f with q | q
        · exact absurd (show P (N + 1) by rw [show N + 1 = f by omega]; exact hp) hq
        · exact q
      obtain ⟨j, h1, h2, h3, h4⟩ := last_in P N f hfN hp
      exact ⟨j, by omega, h2, h3, fun i i1 i2 => by
        rcases Nat.lt_or_ge N i with q | q
        · rw [show i = N + 1 by omega]; exact hq
        · exact h4 i i1 q⟩
theorem sumIn_stays {l : List (Nat × Nat)} {F T j : Nat} : ∀ k, (∀ i, j < i → i ≤ j + k → ¬ (F ≤ (l.getD i (0, 0)).1 ∧ (l.getD i (0, 0)).1 ≤ T)) → sumIn l F T (j + 1 + k) = sumIn l F T (j + 1)
  | 0, _ => rfl
  | k + 1, h => by
    rw [← Nat.add_assoc, sumIn, if_neg (h (j + 1 + k) (by omega) (by omega)), Nat.add_zero]
    exact sumIn_stays k (fun i h1 h2 => h i h1 (by omega))
theorem of_mem_take {l : List (Nat × Nat)} {N : Nat} {p : Nat × Nat} (h : p ∈ l.take (N + 1)) : ∃ f, f ≤ N ∧ l.getD f (0, 0) = p := by
  obtain ⟨i, hi, e⟩ := List.mem_iff_getElem.1 h
  rw [List.length_take] at hi
  refine ⟨i, by omega, ?_⟩
  rw [List.getElem_take] at e
  rw [List.getD_eq_getElem?_getD, List.getElem?_eq_getElem (by omega), Option.getD_some, e]
/-- one is refused: a stretch is too full -/
theorem tf_yes {n d b N : Nat} {a r l : List (Nat × Nat)} {p : Nat × Nat} (hd : 0 < d) (hN : N < l.length) (hp : (a ++ p :: r).Perm (l.take (N + 1))) (hs : (a ++ p :: r).Pairwise (fun x y => x.1 ≤ y.1)) (hno : b * d < (st n d 0 a a.length - p.1 * n) + p.2 * d) : ∃ j, j ≤ N ∧ Full n d b l j := by
  have hs2 := List.pairwise_append.1 hs
  have hmono : ∀ i j, i ≤ j → j < a.length → (a.getD i (0, 0)).1 ≤ (a.getD j (0, 0)).1 := by
    intro i j hij hj
    rw [List.getD_eq_getElem?_getD, List.getD_eq_getElem?_getD, List.getElem?_eq_getElem hj, List.getElem?_eq_getElem (show i < a.length by omega)]
    rcases Nat.lt_or_ge i j with q | q
    · exact List.pairwise_iff_getElem.1 hs2.1 i j (by omega) hj q
    · have e : i = j := by omega
      subst e; exact Nat.le_refl _
  have hnow : ∀ j, j < a.length → (a.getD j (0, 0)).1 ≤ p.1 := by
    intro j hj
    rw [List.getD_eq_getElem?_getD, List.getElem?_eq_getElem hj]
    exact hs2.2.2 _ (List.getElem_mem hj) _ (List.mem_cons_self ..)
  obtain ⟨f, t, hf, ht, h1, h2, h3⟩ := all_full hd hmono hnow hno
  have hmem : ∀ i, i ≤ a.length → ∃ g, g ≤ N ∧ l.getD g (0, 0) = (a ++ [p]).getD i (0, 0) := by
    intro i hi
    have hm : (a ++ [p]).getD i (0, 0) ∈ a ++ p :: r := by
      rw [List.getD_eq_getElem?_getD, List.getElem?_eq_getElem (by simp; omega), Option.getD_some]
      have := List.getElem_mem (l := a ++ [p]) (n := i) (by simp; omega)
      simp only [List.mem_append, List.mem_cons, List.not_mem_nil, or_false] at this ⊢
      rcases this with q | q
      · exact .inl q
      · exact .inr (.inl q)
    exact of_mem_take (hp.mem_iff.1 hm)
  obtain ⟨f', hf', ef⟩ := hmem f hf
  obtain ⟨t', ht', et⟩ := hmem t ht
  generalize hF : ((a ++ [p]).getD f (0, 0)).1 = F at *
  generalize hT : ((a ++ [p]).getD t (0, 0)).1 = T at *
  have hFT : F ≤ T := Nat.le_trans h1 h2
  have eF : (l.getD f' (0, 0)).1 = F := by rw [ef, hF]
  have eT : (l.getD t' (0, 0)).1 = T := by rw [et, hT]
  obtain ⟨j, j1, j2, j3, j4⟩ := last_in (fun i => F ≤ (l.getD i (0, 0)).1 ∧ (l.getD i (0, 0)).1 ≤ T) N f' hf' ⟨by rw [eF]; exact Nat.le_refl _, by rw [eF]; exact hFT⟩
  have htj : t' ≤ j := by
    rcases Nat.lt_or_ge j t' with q | q
    · exact absurd ⟨by rw [eT]; exact hFT, by rw [eT]; exact Nat.le_refl _⟩ (j4 t' q ht')
    · exact q
  refine ⟨j, j1, f', t', j2, htj, by rw [eF]; exact j3.1, by rw [eT]; exact j3.2, ?_⟩
  rw [eF, eT]
  have s1 := sumIn_stays (l := l) (F := F) (T := T) (j := j) (N - j) (fun i i1 i2 => j4 i i1 (by omega))
  rw [show j + 1 + (N - j) = N + 1 from by omega] at s1
  rw [← s1, ← sumIn_take (show N + 1 ≤ l.length from hN), ← sumIn_perm hp]
  refine Nat.lt_of_lt_of_le h3 ?_
  have e : sumIn (a ++ [p]) F T (a.length + 1) = ((a ++ [p]).map (inS F T)).sum := by
    have := sumIn_all (a ++ [p]) F T
    rwa [List.length_append, List.length_singleton] at this
  rw [e, sumIn_all]
  simp only [List.map_append, List.sum_append, List.map_cons, List.sum_cons, List.map_nil, List.sum_nil]
  omega
theorem range_filter : ∀ m N, N < m → (List.range m).filter (fun i => decide (i ≤ N)) = List.range (N + 1)
  | 0, N, h => by omega
  | m + 1, N, h => by
    rw [List.range_succ, List.filter_append]
    rcases Nat.lt_or_ge N m with q | q
    · rw [range_filter m N q]
      simp [show ¬ m ≤ N from by omega]
    · have e : N = m := by omega
      subst e
      rw [List.filter_eq_self.2 (fun i hi => by have := List.mem_range.1 hi; simp; omega), List.range_succ]
      simp
theorem range_map (l : List (Nat × Nat)) : ∀ N, N ≤ l.length → (List.range N).map (fun i => l.getD i (0, 0)) = l.take N
  | 0, _ => by simp
  | N + 1, h => by
    rw [List.range_succ, List.map_append, range_map l N (by omega), List.take_add_one, List.getElem?_eq_getElem (show N < l.length by omega)]
    simp [List.getD_eq_getElem?_getD, List.getElem?_eq_getElem (show N < l.length by omega)]
/-- what passed up to the place N, by the order of places -/
def upTo (l : List (Nat × Nat)) (N : Nat) (ps : List Nat) : List (Nat × Nat) := (ps.filter (fun i => decide (i ≤ N))).map (fun i => l.getD i (0, 0))
theorem upTo_perm {l : List (Nat × Nat)} {N : Nat} {ps : List Nat} (hp : ps.Perm (List.range l.length)) (hN : N < l.length) : (upTo l N ps).Perm (l.take (N + 1)) := by
  have := (hp.filter (fun i => decide (i ≤ N))).map (fun i => l.getD i (0, 0))
  rw [range_filter _ _ hN, range_map l (N + 1) hN] at this
  exact this
/-- by rising ticks -/
def Rising (l : List (Nat × Nat)) (ps : List Nat) : Prop := ps.Pairwise (fun i j => (l.getD i (0, 0)).1 ≤ (l.getD j (0, 0)).1)
theorem upTo_sorted {l : List (Nat × Nat)} {N : Nat} {ps : List Nat} (h : Rising l ps) : (upTo l N ps).Pairwise (fun x y => x.1 ≤ y.1) := by
  unfold upTo
  rw [List.pairwise_map]
  exact List.Pairwise.filter _ h
theorem upTo_take {l : List (Nat × Nat)} {N x i : Nat} {ps : List Nat} (h : ps[x]? = some i) : (N < i → upTo l N (ps.take (x + 1)) = upTo l N (ps.take x)) ∧ (i ≤ N → upTo l N (ps.take (x + 1)) = upTo l N (ps.take x) ++ [l.getD i (0, 0)]) ∧ (i ≤ N → ∃ r, upTo l N ps = upTo l N (ps.take x) ++ l.getD i (0, 0) :: r) := by
  have e : ps.take (x + 1) = ps.take x ++ [i] := by rw [List.take_add_one, h]; rfl
  refine ⟨fun hi => ?_, fun hi => ?_, fun hi => ?_⟩
  · rw [e]; unfold upTo; rw [List.filter_append]; simp [show ¬ i ≤ N from by omega]
  · rw [e]; unfold upTo; rw [List.filter_append]; simp [hi]
  · refine ⟨upTo l N (ps.drop (x + 1)), ?_⟩
    have e2 : ps = ps.take x ++ i :: ps.drop (x + 1) := by
      have := List.take_append_drop (x + 1) ps
      rw [e] at this
      simpa using this.symm
    conv => lhs; rw [e2]
    unfold upTo; rw [List.filter_append, List.filter_cons]; simp [hi]
/-- the relation of the walk through places -/
theorem good_nil (n d b : Nat) : Good n d b 0 [] := fun k hk => absurd hk (Nat.not_lt_zero _)
end Go.Proofs.Ytbiadglhfpapaaa.bk
