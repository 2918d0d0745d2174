/-
  The plain machine at Put, Take, Drain, whole: over words that hold a row.
-/
import Derived.Test.YtlpgdpdjaoppbaaRf7
import Derived.Test.YtlpgdpdjaoppbaaQuDr
set_option linter.unusedVariables false
namespace Go.Proofs.Ytlpgdpdjaoppbaa.rf7
open Go.RowKit Go.Proofs.Ytlpgdpdjaoppbaa.mz Go.Proofs.Ytlpgdpdjaoppbaa.qu
theorem zz (n t : Nat) (h2 : 2 ≤ n) (h : n ≤ 1024) : ∃ z, (t &&& (n - 1)) * 2 ^ 1 % W64 = z ∧ seqOf n t = z + 2 ∧ (z + 2) % W64 = z + 2 ∧ (z + 3) % W64 = z + 3 ∧ z + 3 < 2 * n + 2 := by
  have e := W64_eq
  have hb : t &&& (n - 1) ≤ n - 1 := Nat.and_le_right
  refine ⟨(t &&& (n - 1)) * 2, ?_, ?_, ?_, ?_, by omega⟩
  · rw [Nat.pow_one, Nat.mod_eq_of_lt (by omega)]
  · unfold seqOf; rw [Nat.and_comm]; omega
  · exact Nat.mod_eq_of_lt (by omega)
  · exact Nat.mod_eq_of_lt (by omega)
theorem sums (n t : Nat) (h : n ≤ 1024) (ht : t < 900000) : (t + 1) % W64 = t + 1 ∧ (t + n) % W64 = t + n ∧ (t + (W64 - t)) % W64 = 0 ∧ (t + 1 + (W64 - (t + 1))) % W64 = 0 := by
  rw [W64_eq]
  omega
theorem under (u t : Nat) (h : u < t) (ht : t < 900001) : ∃ y, (u + (W64 - t)) % W64 = y ∧ y / 9223372036854775808 = 1 := by
  rw [W64_eq]
  exact ⟨_, rfl, by omega⟩
theorem less (k : Nat) (h : 0 < k) (hk : k < 10000) : (k + (W64 - 1)) % W64 = k - 1 := by
  rw [W64_eq]
  omega
theorem at_tt {C : List (List Ins × List Nat)} {c : List Ins} (hC : C = [(c, [])]) (a r0 r1 r3 r4 p m z q y i : Nat) (ts : List Nat) : (TT C a r0 r1 r3 r4 p m z q y i ts).call < (TT C a r0 r1 r3 r4 p m z q y i ts).calls.length := by
  subst hC; exact Nat.zero_lt_one
section
variable {n v c : Nat} {ws row : List Nat}
theorem play_put_yes (h : Lk n ws row c) (hc : c < 800000) (hr : row.length < n) (hv : v < 18446744073709551616) :
    ∃ pl, plays 40 6 [ws] [] [[(putCode n v, [])]] = some pl ∧ pl.ws = [putW n v ws] ∧ pl.trace.map (·.2) = [(1, 0), (1, seqOf n (ws[0]?.getD 0)), (5, 0), (2, seqOf n (ws[0]?.getD 0) + 1), (2, seqOf n (ws[0]?.getD 0))] ∧ pl.ths.map (·.ans) = [[(true, [1])]] := by
  have hp := pows_le h.wid
  have hl := h.len
  have hlow := h.low
  have hq := h.room hr
  have hv' : v < W64 := by rw [W64_eq]; exact hv
  unfold putW
  obtain ⟨t, ht⟩ : ∃ t, ws[0]?.getD 0 = t := ⟨_, rfl⟩
  rw [ht] at hq hlow ⊢
  obtain ⟨z, q1, q2, q3, q4, q5⟩ := zz n t hp.1 hp.2
  obtain ⟨s1, s2, s3, s4⟩ := sums n t hp.2 (by omega)
  rw [q2] at hq ⊢
  obtain ⟨C, hC⟩ : ∃ C, C = [(putCode n v, ([] : List Nat))] := ⟨_, rfl⟩
  have hst := put_s hC (by omega) hv'
  rw [hC] at hst
  refine ⟨⟨[TD C [1]], [((ws.set 0 (t + 1)).set (z + 2 + 1) v).set (z + 2) (t + 1)], [(0, 1, 0), (0, 1, z + 2), (0, 5, 0), (0, 2, z + 3), (0, 2, z + 2)]⟩, ?_, rfl, rfl, rfl⟩
  rw [plays_of hst, ← hC,
    rounds_step rfl (at_tt hC ..) (by simp) (put_1 hC (by omega) (by omega) (by omega) ht q1),
    rounds_step rfl (at_tt hC ..) (by simp) (put_5 hC (by omega) (by omega) (by omega) hq q3 s1 s3),
    rounds_step rfl (at_tt hC ..) (by simp) (put_11 hC (by omega) (by omega) (by omega) ht),
    rounds_step rfl (at_tt hC ..) (by simp) (put_13 hC (by omega) (by simp; omega) (by simp; omega) q4),
    rounds_step rfl (at_tt hC ..) (by simp) (put_14 hC (by omega) (by simp; omega) (by simp; omega) q3),
    rounds_over rfl (by simp)]
  rfl
theorem play_put_no (h : Lk n ws row c) (hc : c < 800000) (hr : ¬ row.length < n) (hv : v < 18446744073709551616) :
    ∃ pl, plays 40 6 [ws] [] [[(putCode n v, [])]] = some pl ∧ pl.ws = [ws] ∧ pl.trace.map (·.2) = [(1, 0), (1, seqOf n (ws[0]?.getD 0))] ∧ pl.ths.map (·.ans) = [[(true, [0])]] := by
  have hp := pows_le h.wid
  have hl := h.len
  have hlow := h.low
  have hq := h.full hr
  have hv' : v < W64 := by rw [W64_eq]; exact hv
  obtain ⟨t, ht⟩ : ∃ t, ws[0]?.getD 0 = t := ⟨_, rfl⟩
  rw [ht] at hq hlow ⊢
  obtain ⟨z, q1, q2, q3, q4, q5⟩ := zz n t hp.1 hp.2
  rw [q2] at hq ⊢
  obtain ⟨u, hu⟩ : ∃ u, ws[z + 2]?.getD 0 = u := ⟨_, rfl⟩
  rw [hu] at hq
  obtain ⟨y, y1, y2⟩ := under u t hq (by omega)
  obtain ⟨C, hC⟩ : ∃ C, C = [(putCode n v, ([] : List Nat))] := ⟨_, rfl⟩
  have hst := put_s hC (by omega) hv'
  rw [hC] at hst
  refine ⟨⟨[TD C [0]], [ws], [(0, 1, 0), (0, 1, z + 2)]⟩, ?_, rfl, rfl, rfl⟩
  rw [plays_of hst, ← hC,
    rounds_step rfl (at_tt hC ..) (by simp) (put_1 hC (by omega) (by omega) (by omega) ht q1),
    rounds_step rfl (at_tt hC ..) (by simp) (put_5no hC (by omega) (by omega) (by omega) hu q3 y1 y2),
    rounds_over rfl (by simp)]
  rfl
theorem play_take_yes {x : Nat} (h : Lk n ws (x :: row) c) (hc : c < 800000) :
    ∃ pl, plays 40 6 [ws] [] [[(takeCode n, [])]] = some pl ∧ pl.ws = [takeW n ws] ∧ pl.trace.map (·.2) = takeM n ws ∧ pl.ths.map (·.ans) = [[(true, [x, 1])]] := by
  have hp := pows_le h.wid
  have hl := h.len
  have hlow := h.low
  have he := h.end_
  obtain ⟨hq, hx⟩ := h.first
  unfold takeW takeM
  obtain ⟨t, ht⟩ : ∃ t, ws[1]?.getD 0 = t := ⟨_, rfl⟩
  rw [ht] at hq hx he ⊢
  obtain ⟨z, q1, q2, q3, q4, q5⟩ := zz n t hp.1 hp.2
  obtain ⟨s1, s2, s3, s4⟩ := sums n t hp.2 (by omega)
  rw [q2] at hq hx ⊢
  obtain ⟨C, hC⟩ : ∃ C, C = [(takeCode n, ([] : List Nat))] := ⟨_, rfl⟩
  have hst := take_s hC (by omega)
  rw [hC] at hst
  refine ⟨⟨[TD C [x, 1]], [(ws.set 1 (t + 1)).set (z + 2) (t + n)], [(0, 1, 1), (0, 1, z + 2), (0, 5, 1), (0, 1, z + 3), (0, 2, z + 2)]⟩, ?_, rfl, rfl, rfl⟩
  rw [plays_of hst, ← hC,
    rounds_step rfl (at_tt hC ..) (by simp) (take_0 hC (by omega) (by omega) (by omega) ht q1 s1),
    rounds_step rfl (at_tt hC ..) (by simp) (take_5 hC (by omega) (by omega) (by omega) hq q3 s4),
    rounds_step rfl (at_tt hC ..) (by simp) (take_10 hC (by omega) (by omega) (by omega) ht),
    rounds_step rfl (at_tt hC ..) (by simp) (take_12 (x := x) hC (by omega) (by simp; omega) (by simp; omega) (by rw [List.getElem?_set_ne (by omega)]; exact hx) q4 s2),
    rounds_step rfl (at_tt hC ..) (by simp) (take_14 hC (by omega) (by simp; omega) (by simp; omega) q3),
    rounds_over rfl (by simp)]
  rfl
theorem play_take_no (h : Lk n ws [] c) (hc : c < 800000) :
    ∃ pl, plays 40 6 [ws] [] [[(takeCode n, [])]] = some pl ∧ pl.ws = [ws] ∧ pl.trace.map (·.2) = takeN n ws ∧ pl.ths.map (·.ans) = [[(true, [0, 0])]] := by
  have hp := pows_le h.wid
  have hl := h.len
  have hlow := h.low
  have he := h.end_
  have hq := h.bare
  unfold takeN
  obtain ⟨t, ht⟩ : ∃ t, ws[1]?.getD 0 = t := ⟨_, rfl⟩
  rw [ht] at hq he ⊢
  obtain ⟨z, q1, q2, q3, q4, q5⟩ := zz n t hp.1 hp.2
  obtain ⟨s1, s2, s3, s4⟩ := sums n t hp.2 (by simp at he; omega)
  obtain ⟨y, y1, y2⟩ := under t (t + 1) (by omega) (by simp at he; omega)
  rw [q2] at hq ⊢
  obtain ⟨C, hC⟩ : ∃ C, C = [(takeCode n, ([] : List Nat))] := ⟨_, rfl⟩
  have hst := take_s hC (by omega)
  rw [hC] at hst
  refine ⟨⟨[TD C [0, 0]], [ws], [(0, 1, 1), (0, 1, z + 2)]⟩, ?_, rfl, rfl, rfl⟩
  rw [plays_of hst, ← hC,
    rounds_step rfl (at_tt hC ..) (by simp) (take_0 hC (by omega) (by omega) (by omega) ht q1 s1),
    rounds_step rfl (at_tt hC ..) (by simp) (take_5no hC (by omega) (by omega) (by omega) hq q3 y1 y2),
    rounds_over rfl (by simp)]
  rfl
/-- Drain, from its loop's head on -/
theorem drain_run {C : List (List Ins × List Nat)} (hC : C = [(drainCode n, [])]) : ∀ (row ws : List Nat) (k r0 r1 r4 p m z q y i f : Nat) (ts : List Nat) (tr : List (Nat × Nat × Nat)), Lk n ws row c → c < 800000 → row.length ≤ k → 0 < k → k ≤ n → ts.length + row.length < 900 → tr.length + 5 * row.length + 2 < 16384 → 5 * row.length + 3 ≤ f →
    ∃ tr', Pl.rounds 40 f ⟨[TT C 1 r0 r1 k r4 p m z q y i ts], [ws], tr⟩ = some ⟨[TD C (ts ++ row)], [drainW n row ws], tr'⟩ ∧ tr'.map (·.2) = tr.map (·.2) ++ drainM n row k ws := by
  intro row
  induction row with
  | nil =>
    intro ws k r0 r1 r4 p m z' q y' i f ts tr h hc hrk hk hkn hts htr hf
    have hp := pows_le h.wid
    have hl := h.len
    have hlow := h.low
    have he := h.end_
    have hq := h.bare
    simp only [List.length_nil] at hts htr hf he
    obtain ⟨k, rfl⟩ : ∃ j, k = j + 1 := ⟨k - 1, by omega⟩
    simp only [drainM, takeN, drainW, List.append_nil]
    obtain ⟨t, ht⟩ : ∃ t, ws[1]?.getD 0 = t := ⟨_, rfl⟩
    rw [ht] at hq he ⊢
    obtain ⟨z, q1, q2, q3, q4, q5⟩ := zz n t hp.1 hp.2
    obtain ⟨s1, s2, s3, s4⟩ := sums n t hp.2 (by omega)
    obtain ⟨y, y1, y2⟩ := under t (t + 1) (by omega) (by omega)
    rw [q2] at hq ⊢
    obtain ⟨f, rfl⟩ : ∃ g, f = g + 1 + 1 + 1 := ⟨f - 3, by omega⟩
    refine ⟨tr ++ [(0, 1, 1)] ++ [(0, 1, z + 2)], ?_, by simp⟩
    rw [rounds_step rfl (at_tt hC ..) (by omega) (drain_1 hC (by omega) (by omega) (by omega) ht q1 s1 (by omega)),
      rounds_step rfl (at_tt hC ..) (by simp; omega) (drain_6no hC (by omega) (by omega) (by omega) hq q3 y1 y2 (by omega)),
      rounds_over rfl (by simp; omega)]
  | cons x r ih =>
    intro ws k r0 r1 r4 p m z' q y' i f ts tr h hc hrk hk hkn hts htr hf
    have hp := pows_le h.wid
    have hl := h.len
    have hlow := h.low
    have he := h.end_
    obtain ⟨hq, hx⟩ := h.first
    have hnext := h.take
    simp only [List.length_cons] at hts htr hf he hrk
    obtain ⟨k, rfl⟩ : ∃ j, k = j + 1 := ⟨k - 1, by omega⟩
    simp only [drainM, takeM, drainW]
    obtain ⟨wt, hwt⟩ : ∃ wt, takeW n ws = wt := ⟨_, rfl⟩
    have hwt' := hwt
    unfold takeW at hwt'
    rw [hwt] at hnext ⊢
    obtain ⟨t, ht⟩ : ∃ t, ws[1]?.getD 0 = t := ⟨_, rfl⟩
    rw [ht] at hq hx he hwt' ⊢
    obtain ⟨z, q1, q2, q3, q4, q5⟩ := zz n t hp.1 hp.2
    obtain ⟨s1, s2, s3, s4⟩ := sums n t hp.2 (by omega)
    rw [q2] at hq hx hwt' ⊢
    have hk1 := less (k + 1) (by omega) (by omega)
    obtain ⟨f, rfl⟩ : ∃ g, f = g + 1 + 1 + 1 + 1 + 1 := ⟨f - 5, by omega⟩
    rw [rounds_step rfl (at_tt hC ..) (by omega) (drain_1 hC (by omega) (by omega) (by omega) ht q1 s1 (by omega)),
      rounds_step rfl (at_tt hC ..) (by simp; omega) (drain_6 hC (by omega) (by omega) (by omega) hq q3 s4 (by omega)),
      rounds_step rfl (at_tt hC ..) (by simp; omega) (drain_11 hC (by omega) (by omega) (by omega) ht (by omega)),
      rounds_step rfl (at_tt hC ..) (by simp; omega) (drain_13 (x := x) hC (by omega) (by simp; omega) (by simp; omega) (by rw [List.getElem?_set_ne (by omega)]; exact hx) q4 s2 (by omega))]
    by_cases hk0 : 0 < k + 1 - 1
    · rw [rounds_step rfl (at_tt hC ..) (by simp; omega) (drain_15on hC (by omega) (by simp; omega) (by simp; omega) q3 hk1 hk0 (by omega)), hwt']
      obtain ⟨tr', g1, g2⟩ := ih wt (k + 1 - 1) x 1 1 t (n - 1) z 0 (t + n) 1 f (ts ++ [x]) (tr ++ [(0, 1, 1)] ++ [(0, 1, z + 2)] ++ [(0, 5, 1)] ++ [(0, 1, z + 3)] ++ [(0, 2, z + 2)]) hnext hc (by omega) hk0 (by omega) (by simp; omega) (by simp; omega) (by omega)
      refine ⟨tr', by rw [g1]; simp, ?_⟩
      rw [g2]
      simp
    · have hr0 : r = [] := List.eq_nil_of_length_eq_zero (by omega)
      subst hr0
      have hkk : k = 0 := by omega
      subst hkk
      obtain ⟨f, rfl⟩ : ∃ g, f = g + 1 := ⟨f - 1, by simp at hf; omega⟩
      rw [rounds_step rfl (at_tt hC ..) (by simp; omega) (drain_15off hC (by omega) (by simp; omega) (by simp; omega) q3 hk1 hk0 (by omega)), hwt', rounds_over rfl (by simp; omega)]
      refine ⟨_, rfl, ?_⟩
      simp [drainM]
theorem play_drain (h : Lk n ws row c) (hc : c < 800000) (hr : row.length < 800) :
    ∃ pl, plays 40 (5 * row.length + 3) [ws] [] [[(drainCode n, [])]] = some pl ∧ pl.ws = [drainW n row ws] ∧ pl.trace.map (·.2) = drainM n row n ws ∧ pl.ths.map (·.ans) = [[(true, row)]] := by
  have hp := pows_le h.wid
  obtain ⟨C, hC⟩ : ∃ C, C = [(drainCode n, ([] : List Nat))] := ⟨_, rfl⟩
  have hst := drain_s hC (by omega)
  rw [hC] at hst
  obtain ⟨tr', g1, g2⟩ := drain_run hC row ws n 0 0 0 0 0 0 0 0 0 (5 * row.length + 3) [] [] h hc h.few (by omega) (Nat.le_refl _) (by simp; omega) (by simp; omega) (Nat.le_refl _)
  refine ⟨⟨[TD C row], [drainW n row ws], tr'⟩, ?_, rfl, by simpa using g2, rfl⟩
  rw [plays_of hst, ← hC, g1]
  simp
end
end Go.Proofs.Ytlpgdpdjaoppbaa.rf7
