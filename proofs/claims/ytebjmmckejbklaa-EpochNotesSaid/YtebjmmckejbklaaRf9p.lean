/-
  The plain machine at Move, whole. What a call tells, the words behind it, its operations; the plain machine at every call.
-/
import Derived.Test.YtebjmmckejbklaaRf9m
set_option linter.unusedVariables false
namespace Go.Proofs.Ytebjmmckejbklaa.rf9
open Go.Proofs.Ytebjmmckejbklaa.mz Go.Proofs.Ytebjmmckejbklaa.ep
theorem at_tt {C : List (List Ins × List Nat)} {c : List Ins} (hC : C = [(c, [])]) (a o k e f x : Nat) (ts : List Nat) : (TT C a o k e f x ts).call < (TT C a o k e f x ts).calls.length := by
  subst hC; exact Nat.zero_lt_one
def lk (l : List (Nat × Nat)) : List (Nat × Nat × Nat) := l.map (fun q => (0, q.1, q.2))
theorem bad_no {e p : Nat} (h : bad e p = false) : p = 0 ∨ (¬ p = 0 ∧ p = e) := by
  unfold bad at h
  rcases Nat.decEq p 0 with q | q
  · rcases Nat.decEq p e with r | r
    · simp [q, r] at h
    · exact .inr ⟨q, r⟩
  · exact .inl q
theorem bad_yes {e p : Nat} (h : bad e p = true) : ¬ p = 0 ∧ ¬ p = e := by
  unfold bad at h
  simpa using h
section
variable {n e : Nat} {ws : List Nat} {C : List (List Ins × List Nat)}
theorem goes_bad (hC : C = [(moveCode n, [])]) (hn : n < 1000) (hl : ws.length = n + 1) : ∀ (r m x f : Nat) (tr : List (Nat × Nat × Nat)), m + r = n → tr.length + r < 16000 → away e ws m r = true →
    Pl.rounds 40 (f + r + 1) ⟨[TT C (4 * m + 3) 0 0 e 0 x []], [ws], tr⟩ = some ⟨[TD C [0, 0]], [ws], tr ++ lk (looks e ws m r)⟩
  | 0, m, x, f, tr, h, _, ha => by simp [away] at ha
  | r + 1, m, x, f, tr, h, ht, ha => by
    obtain ⟨p, hp⟩ : ∃ p, ws[m + 1]?.getD 0 = p := ⟨_, rfl⟩
    simp only [away, looks, hp] at ha ⊢
    cases hb : bad e p with
    | true =>
      obtain ⟨q1, q2⟩ := bad_yes hb
      rw [show f + (r + 1) + 1 = (f + r + 1) + 1 from by omega, rounds_step rfl (at_tt hC ..) (by omega) (mv_no hC hn hl (by omega) hp q1 q2), rounds_over rfl (by simp; omega)]
      simp [lk]
    | false =>
      rw [hb] at ha
      have ha' : away e ws (m + 1) r = true := by simpa using ha
      rcases r with _ | r
      · simp [away] at ha'
      · have step : (TT C (4 * m + 3) 0 0 e 0 x []).op 40 [ws] = some (TT C (4 * m + 7) 0 0 e 0 p [], [ws], (1, m + 1)) := by
          rcases bad_no hb with q | ⟨q1, q2⟩
          · exact mv_go0 hC hn hl (by omega) hp q
          · subst q2
            exact mv_goe hC hn hl (by omega) hp q1
        rw [show f + (r + 1 + 1) + 1 = (f + (r + 1) + 1) + 1 from by omega, rounds_step rfl (at_tt hC ..) (by omega) step]
        have ih := goes_bad hC hn hl (r + 1) (m + 1) p f (tr ++ [(0, 1, m + 1)]) (by omega) (by simp; omega) ha'
        rw [show 4 * (m + 1) + 3 = 4 * m + 7 from by omega] at ih
        rw [ih]
        simp [lk]
theorem goes_good (hC : C = [(moveCode n, [])]) (hn : n < 1000) (hl : ws.length = n + 1) (h0 : ws[0]?.getD 0 = e) (he : e < 1000000) : ∀ (r m x f : Nat) (tr : List (Nat × Nat × Nat)), m + (r + 1) = n → tr.length + r < 16000 → away e ws m (r + 1) = false →
    Pl.rounds 40 (f + r + 3) ⟨[TT C (4 * m + 3) 0 0 e 0 x []], [ws], tr⟩ = some ⟨[TD C [e + 1, 1]], [ws.set 0 (e + 1)], tr ++ lk (looks e ws m (r + 1)) ++ [(0, 5, 0)]⟩
  | 0, m, x, f, tr, h, ht, ha => by
    obtain ⟨p, hp⟩ : ∃ p, ws[m + 1]?.getD 0 = p := ⟨_, rfl⟩
    simp only [away, looks, hp] at ha ⊢
    have hb : bad e p = false := by simpa using ha
    have step : (TT C (4 * m + 3) 0 0 e 0 x []).op 40 [ws] = some (TT C (4 * m + 8) 0 0 e (e + 1) p [], [ws], (1, m + 1)) := by
      rcases bad_no hb with q | ⟨q1, q2⟩
      · exact mv_last0 hC hn hl (by omega) he hp q
      · subst q2
        exact mv_laste hC hn hl (by omega) he hp q1
    rw [show 4 * m + 8 = 4 * n + 4 from by omega] at step
    rw [show f + 0 + 3 = (f + 2) + 1 from by omega, rounds_step rfl (at_tt hC ..) (by omega) step, rounds_step rfl (at_tt hC ..) (by simp; omega) (mv_cas hC hn hl h0), rounds_over rfl (by simp; omega)]
    simp [lk, hb]
  | r + 1, m, x, f, tr, h, ht, ha => by
    obtain ⟨p, hp⟩ : ∃ p, ws[m + 1]?.getD 0 = p := ⟨_, rfl⟩
    rw [away, hp] at ha
    rw [looks, hp]
    obtain ⟨hb, ha'⟩ : bad e p = false ∧ away e ws (m + 1) (r + 1) = false := by simpa using ha
    have step : (TT C (4 * m + 3) 0 0 e 0 x []).op 40 [ws] = some (TT C (4 * m + 7) 0 0 e 0 p [], [ws], (1, m + 1)) := by
      rcases bad_no hb with q | ⟨q1, q2⟩
      · exact mv_go0 hC hn hl (by omega) hp q
      · subst q2
        exact mv_goe hC hn hl (by omega) hp q1
    rw [show f + (r + 1) + 3 = (f + r + 3) + 1 from by omega, rounds_step rfl (at_tt hC ..) (by omega) step]
    have ih := goes_good hC hn hl h0 he r (m + 1) p f (tr ++ [(0, 1, m + 1)]) (by omega) (by simp; omega) ha'
    rw [show 4 * (m + 1) + 3 = 4 * m + 7 from by omega] at ih
    rw [ih]
    simp [lk, hb]
theorem lk_snd (l : List (Nat × Nat)) : (lk l).map (·.2) = l := by
  simp [lk, Function.comp_def]
theorem play_move_no (hl : ws.length = n + 1) (hn : n < 1000) (h1 : 1 ≤ n) (h0 : ws[0]?.getD 0 = e) (ha : away e ws 0 n = true) :
    ∃ pl, plays 40 (n + 4) [ws] [] [[(moveCode n, [])]] = some pl ∧ pl.ws = [ws] ∧ pl.trace.map (·.2) = (1, 0) :: looks e ws 0 n ∧ pl.ths.map (·.ans) = [[(true, [0, 0])]] := by
  obtain ⟨C, hC⟩ : ∃ C, C = [(moveCode n, ([] : List Nat))] := ⟨_, rfl⟩
  have hst := mv_s hC
  rw [hC] at hst
  have g := goes_bad (C := C) (e := e) (ws := ws) hC hn hl n 0 0 2 [(0, 1, 0)] (by omega) (by simp; omega) ha
  rw [show 4 * 0 + 3 = 3 from rfl] at g
  refine ⟨⟨[TD C [0, 0]], [ws], [(0, 1, 0)] ++ lk (looks e ws 0 n)⟩, ?_, rfl, by rw [List.map_append, lk_snd]; rfl, rfl⟩
  rw [plays_of hst, ← hC, show n + 4 = (2 + n + 1) + 1 from by omega, rounds_step rfl (at_tt hC ..) (by simp) (mv_2 hC hn hl (by omega) h0)]
  exact g
theorem play_move_yes (hl : ws.length = n + 1) (hn : n < 1000) (h1 : 1 ≤ n) (h0 : ws[0]?.getD 0 = e) (he : e < 1000000) (ha : away e ws 0 n = false) :
    ∃ pl, plays 40 (n + 4) [ws] [] [[(moveCode n, [])]] = some pl ∧ pl.ws = [ws.set 0 (e + 1)] ∧ pl.trace.map (·.2) = (1, 0) :: (looks e ws 0 n ++ [(5, 0)]) ∧ pl.ths.map (·.ans) = [[(true, [e + 1, 1])]] := by
  obtain ⟨C, hC⟩ : ∃ C, C = [(moveCode n, ([] : List Nat))] := ⟨_, rfl⟩
  have hst := mv_s hC
  rw [hC] at hst
  obtain ⟨r, rfl⟩ : ∃ r, n = r + 1 := ⟨n - 1, by omega⟩
  have g := goes_good (C := C) (e := e) (ws := ws) hC hn hl h0 he r 0 0 1 [(0, 1, 0)] (by omega) (by simp; omega) ha
  rw [show 4 * 0 + 3 = 3 from rfl] at g
  refine ⟨⟨[TD C [e + 1, 1]], [ws.set 0 (e + 1)], [(0, 1, 0)] ++ lk (looks e ws 0 (r + 1)) ++ [(0, 5, 0)]⟩, ?_, rfl, by rw [List.map_append, List.map_append, lk_snd]; rfl, rfl⟩
  rw [plays_of hst, ← hC, show r + 1 + 4 = (1 + r + 3) + 1 from by omega, rounds_step rfl (at_tt hC ..) (by simp) (mv_2 hC hn hl (by omega) h0)]
  exact g
end
/-- what comes of a call: its code, what it tells, the words behind it, its operations -/
structure Out where
  code : List Ins
  told : List Nat
  next : List Nat
  marks : List (Nat × Nat)
def there (n : Nat) (s : Int) : Bool := decide (0 ≤ s) && decide (s < (n : Int))
def outOf (n r : Nat) (s : Int) (q : Nat) (ws : List Nat) : Out :=
  let e := ws[0]?.getD 0
  let k := s.toNat
  if r = 0 then ⟨nowCode, [e], ws, [(1, 0)]⟩
  else if r = 1 then
    if there n s then
      if ws[k + 1]?.getD 0 = 0 then ⟨pinCode k, [e, 0], ws.set (k + 1) e, [(1, k + 1), (1, 0), (2, k + 1), (1, 0)]⟩ else ⟨pinCode k, [0, 90], ws, [(1, k + 1)]⟩
    else ⟨failsCode 1 5, [0, 5], ws, []⟩
  else if r = 2 then
    if there n s then
      if ws[k + 1]?.getD 0 = 0 then ⟨unpinCode k, [90], ws, [(1, k + 1)]⟩ else ⟨unpinCode k, [0], ws.set (k + 1) 0, [(1, k + 1), (2, k + 1)]⟩
    else ⟨failsCode 0 5, [5], ws, []⟩
  else if r = 3 then
    if away e ws 0 n then ⟨moveCode n, [0, 0], ws, (1, 0) :: looks e ws 0 n⟩ else ⟨moveCode n, [e + 1, 1], ws.set 0 (e + 1), (1, 0) :: (looks e ws 0 n ++ [(5, 0)])⟩
  else ⟨safeCode q, [if safe e q then 1 else 0], ws, [(1, 0)]⟩
theorem there_yes {n : Nat} {s : Int} (h : there n s = true) : ∃ k : Nat, s = (k : Int) ∧ s.toNat = k ∧ k < n := by
  unfold there at h
  simp at h
  exact ⟨s.toNat, by omega, rfl, by omega⟩
theorem there_no {n : Nat} {s : Int} (h : there n s = false) : s < 0 ∨ (n : Int) ≤ s := by
  unfold there at h
  simp at h
  omega
/-- the plain machine at a call -/
theorem play_any {n r q : Nat} {s : Int} {ws : List Nat} (hl : ws.length = n + 1) (h1 : 1 ≤ n) (hn : n ≤ 16) (he : ws[0]?.getD 0 < 1000000) (hr : r < 5) (hq : q < 18446744073709551616) :
    ∃ f pl, plays 40 f [ws] [] [[((outOf n r s q ws).code, [])]] = some pl ∧ pl.ws = [(outOf n r s q ws).next] ∧ pl.trace.map (·.2) = (outOf n r s q ws).marks ∧ pl.ths.map (·.ans) = [[(true, (outOf n r s q ws).told)]] := by
  rcases (show r = 0 ∨ r = 1 ∨ r = 2 ∨ r = 3 ∨ r = 4 by omega) with rfl | rfl | rfl | rfl | rfl
  · obtain ⟨pl, p1, p2, p3, p4⟩ := play_now (n := n) hl (by omega) rfl
    exact ⟨_, pl, p1, p2, by rw [p3]; rfl, p4⟩
  · cases ht : there n s with
    | true =>
      obtain ⟨k, rfl, hk, hkn⟩ := there_yes ht
      by_cases hp : ws[k + 1]?.getD 0 = 0
      · obtain ⟨pl, p1, p2, p3, p4⟩ := play_pin_yes (n := n) hl (by omega) hkn rfl rfl hp
        have ho : outOf n 1 (k : Int) q ws = ⟨pinCode k, [ws[0]?.getD 0, 0], ws.set (k + 1) (ws[0]?.getD 0), [(1, k + 1), (1, 0), (2, k + 1), (1, 0)]⟩ := by simp [outOf, ht, hk, hp]
        rw [ho]
        exact ⟨_, pl, p1, p2, by rw [p3]; rfl, p4⟩
      · obtain ⟨pl, p1, p2, p3, p4⟩ := play_pin_no (n := n) hl (by omega) hkn rfl hp
        have ho : outOf n 1 (k : Int) q ws = ⟨pinCode k, [0, 90], ws, [(1, k + 1)]⟩ := by simp [outOf, ht, hk, hp]
        rw [ho]
        exact ⟨_, pl, p1, p2, by rw [p3]; rfl, p4⟩
    | false =>
      obtain ⟨pl, p1, p2, p3, p4⟩ := play_fail1 (n := n) hl (by omega)
      have ho : outOf n 1 s q ws = ⟨failsCode 1 5, [0, 5], ws, []⟩ := by simp [outOf, ht]
      rw [ho]
      exact ⟨_, pl, p1, p2, by rw [p3]; rfl, p4⟩
  · cases ht : there n s with
    | true =>
      obtain ⟨k, rfl, hk, hkn⟩ := there_yes ht
      by_cases hp : ws[k + 1]?.getD 0 = 0
      · obtain ⟨pl, p1, p2, p3, p4⟩ := play_unpin_no (n := n) hl (by omega) hkn rfl hp
        have ho : outOf n 2 (k : Int) q ws = ⟨unpinCode k, [90], ws, [(1, k + 1)]⟩ := by simp [outOf, ht, hk, hp]
        rw [ho]
        exact ⟨_, pl, p1, p2, by rw [p3]; rfl, p4⟩
      · obtain ⟨pl, p1, p2, p3, p4⟩ := play_unpin_yes (n := n) hl (by omega) hkn rfl hp
        have ho : outOf n 2 (k : Int) q ws = ⟨unpinCode k, [0], ws.set (k + 1) 0, [(1, k + 1), (2, k + 1)]⟩ := by simp [outOf, ht, hk, hp]
        rw [ho]
        exact ⟨_, pl, p1, p2, by rw [p3]; rfl, p4⟩
    | false =>
      obtain ⟨pl, p1, p2, p3, p4⟩ := play_fail0 (n := n) hl (by omega)
      have ho : outOf n 2 s q ws = ⟨failsCode 0 5, [5], ws, []⟩ := by simp [outOf, ht]
      rw [ho]
      exact ⟨_, pl, p1, p2, by rw [p3]; rfl, p4⟩
  · cases ha : away (ws[0]?.getD 0) ws 0 n with
    | true =>
      obtain ⟨pl, p1, p2, p3, p4⟩ := play_move_no hl (by omega) h1 rfl ha
      have ho : outOf n 3 s q ws = ⟨moveCode n, [0, 0], ws, (1, 0) :: looks (ws[0]?.getD 0) ws 0 n⟩ := by simp [outOf, ha]
      rw [ho]
      exact ⟨_, pl, p1, p2, p3, p4⟩
    | false =>
      obtain ⟨pl, p1, p2, p3, p4⟩ := play_move_yes hl (by omega) h1 rfl he ha
      have ho : outOf n 3 s q ws = ⟨moveCode n, [ws[0]?.getD 0 + 1, 1], ws.set 0 (ws[0]?.getD 0 + 1), (1, 0) :: (looks (ws[0]?.getD 0) ws 0 n ++ [(5, 0)])⟩ := by simp [outOf, ha]
      rw [ho]
      exact ⟨_, pl, p1, p2, p3, p4⟩
  · obtain ⟨e, h0⟩ : ∃ e, ws[0]?.getD 0 = e := ⟨_, rfl⟩
    rw [h0] at he
    have ho : outOf n 4 s q ws = ⟨safeCode q, [if safe e q then 1 else 0], ws, [(1, 0)]⟩ := by simp [outOf, h0]
    rw [ho]
    rcases Nat.lt_or_ge e 2 with h2 | h2
    · obtain ⟨pl, p1, p2, p3, p4⟩ := play_safe_low (n := n) hl (by omega) hq h0 h2
      have hs : safe e q = false := by unfold safe; rw [decide_eq_false (by omega : ¬ 2 ≤ e)]; rfl
      exact ⟨_, pl, p1, p2, by rw [p3]; rfl, by rw [p4, hs]; rfl⟩
    · rcases Nat.lt_or_ge (e - 2) q with h3 | h3
      · obtain ⟨pl, p1, p2, p3, p4⟩ := play_safe_no (n := n) hl (by omega) hq h0 h2 he h3
        have hs : safe e q = false := by unfold safe; rw [decide_eq_false (by omega : ¬ q + 2 ≤ e)]; simp
        exact ⟨_, pl, p1, p2, by rw [p3]; rfl, by rw [p4, hs]; rfl⟩
      · obtain ⟨pl, p1, p2, p3, p4⟩ := play_safe_yes (n := n) hl (by omega) hq h0 h2 he (by omega)
        have hs : safe e q = true := by unfold safe; rw [decide_eq_true h2, decide_eq_true (by omega : q + 2 ≤ e)]; rfl
        exact ⟨_, pl, p1, p2, by rw [p3]; rfl, by rw [p4, hs]; rfl⟩
end Go.Proofs.Ytebjmmckejbklaa.rf9
