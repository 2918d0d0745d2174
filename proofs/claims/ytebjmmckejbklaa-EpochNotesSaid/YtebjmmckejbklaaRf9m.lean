/-
  patchbayref09: the plain machine at Move: an operation a lemma; the slots by induction.
-/
import Derived.Test.YtebjmmckejbklaaRf9
set_option linter.unusedSimpArgs false
set_option linter.unusedVariables false
namespace Go.Proofs.Ytebjmmckejbklaa.rf9
open Go.Proofs.Ytebjmmckejbklaa.mz Go.Proofs.Ytebjmmckejbklaa.ep
theorem rounds_step {n f : Nat} {t t' : Th} {ws ws' : List (List Nat)} {tr : List (Nat × Nat × Nat)} {m : Nat × Nat} (ho : t.over = false) (hc : t.call < t.calls.length) (htr : tr.length < 16384) (h : t.op n ws = some (t', ws', m)) :
    Pl.rounds n (f + 1) ⟨[t], ws, tr⟩ = Pl.rounds n f ⟨[t'], ws', tr ++ [(0, m.1, m.2)]⟩ := by
  simp [Pl.rounds, Pl.round, Pl.over, Pl.turn, ho, hc, h, Nat.not_le.2 htr]
theorem rounds_over {n f : Nat} {t : Th} {ws : List (List Nat)} {tr : List (Nat × Nat × Nat)} (ho : t.over = true) (htr : tr.length < 16384) : Pl.rounds n (f + 1) ⟨[t], ws, tr⟩ = some ⟨[t], ws, tr⟩ := by
  simp [Pl.rounds, Pl.round, Pl.over, ho, Nat.not_le.2 htr]
theorem plays_of {n f : Nat} {ws : List (List Nat)} {c : List Ins} {t : Th} (h : (Th.fresh [(c, [])]).on n = some t) : plays n f ws [] [[(c, [])]] = Pl.rounds n f ⟨[t], ws, []⟩ := by
  simp [plays, Pl.starts, Pl.byOrder, h]
/-- a thread in its one call: where it stands, its registers, what it has told -/
def TT (C : List (List Ins × List Nat)) (a o k e f x : Nat) (ts : List Nat) : Th := ⟨C, 0, a, [o, k, 0, 0, 0, 0, 0, 0, 0, 0, 0, 0, 0, 0, 0, 0, 0, e, f, x, 0, 0, 0, 0], [(false, ts)], false⟩
/-- the call is over -/
def TD (C : List (List Ins × List Nat)) (ts : List Nat) : Th := ⟨C, 1, 0, List.replicate 24 0, [(true, ts)], true⟩
section
variable {n m e p x f : Nat} {ws ts : List Nat} {C : List (List Ins × List Nat)} {tr : List (Nat × Nat × Nat)}
set_option maxRecDepth 100000 in
set_option maxHeartbeats 2000000 in
theorem mv_s (hC : C = [(moveCode n, [])]) : (Th.fresh C).on 40 = some (TT C 2 0 0 0 0 0 []) := by
  have e0 : W64 = 18446744073709551616 := W64_eq
  have hcl : C.length = 1 := by rw [hC]; rfl
  have f0 := ins_at C _ _ hC 0 ⟨6, 0, 0, 0, 0, 0, 0⟩ rfl
  have f1 := ins_at C _ _ hC 1 ⟨6, 0, 1, 0, 0, 0, 0⟩ rfl
  have f2 := ins_at C _ _ hC 2 ⟨1, 0, 17, 9, 0, 0, 0⟩ rfl
  clear hC
  simp (config := { maxSteps := 400000 }) [Th.fresh, TT, TD, Ins.fin, Th.on, Th.begun, isOp, Th.op, Th.does, Ins.fit, Th.place, reg, wordAt, setWord, Th.own, Ins.known, Th.told, mz.own, Cs.put, Cs.go, Th.finish, e0, hcl, f0, f1, f2]
set_option maxRecDepth 100000 in
set_option maxHeartbeats 2000000 in
theorem mv_2 (hC : C = [(moveCode n, [])]) (hn : n < 1000) (hl : ws.length = n + 1) (h1 : 0 < n) (h0 : ws[0]?.getD 0 = e) :
    (TT C 2 0 0 0 0 0 []).op 40 [ws] = some (TT C 3 0 0 e 0 0 [], [ws], (1, 0)) := by
  have e0 : W64 = 18446744073709551616 := W64_eq
  have g3 : ws.length < 1000000 := by omega
  have hcl : C.length = 1 := by rw [hC]; rfl
  have g0 : 0 < ws.length := by omega
  have h0' : ws[0] = e := by rw [List.getElem?_eq_getElem g0] at h0; exact h0
  have f2 := ins_at C _ _ hC (2) ⟨1, 0, 17, 9, 0, 0, 0⟩ (rfl)
  have f3 := ins_at C _ _ hC (3) ⟨1, 0, 19, 9, 0, 0, 1⟩ (move_slot n 0 0 h1 (by omega))
  clear hC hl
  simp (config := { maxSteps := 400000 }) [TT, TD, Ins.fin, Th.on, Th.begun, isOp, Th.op, Th.does, Ins.fit, Th.place, reg, wordAt, setWord, Th.own, Ins.known, Th.told, mz.own, Cs.put, Cs.go, Th.finish, e0, hcl, g3, h0', g0, f2, f3]
set_option maxRecDepth 100000 in
set_option maxHeartbeats 2000000 in
theorem mv_go0 (hC : C = [(moveCode n, [])]) (hn : n < 1000) (hl : ws.length = n + 1) (hm : m + 1 < n) (hp : ws[m + 1]?.getD 0 = p) (hp0 : p = 0) :
    (TT C (4 * m + 3) 0 0 e 0 x []).op 40 [ws] = some (TT C (4 * m + 7) 0 0 e 0 p [], [ws], (1, m + 1)) := by
  have e0 : W64 = 18446744073709551616 := W64_eq
  have g3 : ws.length < 1000000 := by omega
  have hcl : C.length = 1 := by rw [hC]; rfl
  have b1 : 4 * m + 7 < 18446744073709551616 := by omega
  have b2 : 4 * m + 7 < 1000000 := by omega
  have b3 : m + 1 < 18446744073709551616 := by omega
  have b4 : (m + 1) % 18446744073709551616 = m + 1 := Nat.mod_eq_of_lt b3
  have g1 : m + 1 < ws.length := by omega
  have hp' : ws[m + 1] = p := by rw [List.getElem?_eq_getElem g1] at hp; exact hp
  have s0 := ins_at C _ _ hC (4 * m + 3) ⟨1, 0, 19, 9, 0, 0, m + 1⟩ (move_slot n m 0 (by omega) (by omega))
  have s1 := ins_at C _ _ hC (4 * m + 4) ⟨19, 0, 19, 9, 0, 0, 4 * m + 7⟩ (move_slot n m 1 (by omega) (by omega))
  have s1b := ins_at C _ _ hC (4 * m + 3 + 1) ⟨19, 0, 19, 9, 0, 0, 4 * m + 7⟩ (move_slot n m 1 (by omega) (by omega))
  have n0 := ins_at C _ _ hC (4 * m + 7) ⟨1, 0, 19, 9, 0, 0, m + 1 + 1⟩ (by have := move_slot n (m + 1) 0 (by omega) (by omega); rwa [show 4 * (m + 1) + 3 + 0 = 4 * m + 7 from by omega] at this)
  clear hC hl
  simp (config := { maxSteps := 400000 }) [TT, TD, Ins.fin, Th.on, Th.begun, isOp, Th.op, Th.does, Ins.fit, Th.place, reg, wordAt, setWord, Th.own, Ins.known, Th.told, mz.own, Cs.put, Cs.go, Th.finish, e0, hcl, g3, b1, b2, b3, b4, g1, hp', hp0, s0, s1, s1b, n0]
set_option maxRecDepth 100000 in
set_option maxHeartbeats 2000000 in
theorem mv_last0 (hC : C = [(moveCode n, [])]) (hn : n < 1000) (hl : ws.length = n + 1) (hm : m + 1 = n) (he : e < 1000000) (hp : ws[m + 1]?.getD 0 = p) (hp0 : p = 0) :
    (TT C (4 * m + 3) 0 0 e 0 x []).op 40 [ws] = some (TT C (4 * m + 8) 0 0 e (e + 1) p [], [ws], (1, m + 1)) := by
  have e0 : W64 = 18446744073709551616 := W64_eq
  have g3 : ws.length < 1000000 := by omega
  have hcl : C.length = 1 := by rw [hC]; rfl
  have b1 : 4 * m + 7 < 18446744073709551616 := by omega
  have b2 : 4 * m + 7 < 1000000 := by omega
  have b3 : m + 1 < 18446744073709551616 := by omega
  have b4 : (m + 1) % 18446744073709551616 = m + 1 := Nat.mod_eq_of_lt b3
  have g1 : m + 1 < ws.length := by omega
  have hp' : ws[m + 1] = p := by rw [List.getElem?_eq_getElem g1] at hp; exact hp
  have he1 : (e + 1) % 18446744073709551616 = e + 1 := Nat.mod_eq_of_lt (by omega)
  have s0 := ins_at C _ _ hC (4 * m + 3) ⟨1, 0, 19, 9, 0, 0, m + 1⟩ (move_slot n m 0 (by omega) (by omega))
  have s1 := ins_at C _ _ hC (4 * m + 4) ⟨19, 0, 19, 9, 0, 0, 4 * m + 7⟩ (move_slot n m 1 (by omega) (by omega))
  have s1b := ins_at C _ _ hC (4 * m + 3 + 1) ⟨19, 0, 19, 9, 0, 0, 4 * m + 7⟩ (move_slot n m 1 (by omega) (by omega))
  have n0 := ins_at C _ _ hC (4 * m + 7) ⟨8, 0, 18, 17, 9, 0, 1⟩ (by have := move_tail n 0 (by omega); rwa [show 4 * n + 3 + 0 = 4 * m + 7 from by omega] at this)
  have n1 := ins_at C _ _ hC (4 * m + 8) ⟨5, 0, 1, 9, 17, 18, 0⟩ (by have := move_tail n 1 (by omega); rwa [show 4 * n + 3 + 1 = 4 * m + 8 from by omega] at this)
  have n1b := ins_at C _ _ hC (4 * m + 7 + 1) ⟨5, 0, 1, 9, 17, 18, 0⟩ (by have := move_tail n 1 (by omega); rwa [show 4 * n + 3 + 1 = 4 * m + 7 + 1 from by omega] at this)
  clear hC hl
  simp (config := { maxSteps := 400000 }) [TT, TD, Ins.fin, Th.on, Th.begun, isOp, Th.op, Th.does, Ins.fit, Th.place, reg, wordAt, setWord, Th.own, Ins.known, Th.told, mz.own, Cs.put, Cs.go, Th.finish, e0, hcl, g3, b1, b2, b3, b4, g1, hp', hp0, he1, s0, s1, s1b, n0, n1, n1b]
set_option maxRecDepth 100000 in
set_option maxHeartbeats 2000000 in
theorem mv_goe (hC : C = [(moveCode n, [])]) (hn : n < 1000) (hl : ws.length = n + 1) (hm : m + 1 < n) (hp : ws[m + 1]?.getD 0 = p) (hp0 : ¬ p = 0) :
    (TT C (4 * m + 3) 0 0 p 0 x []).op 40 [ws] = some (TT C (4 * m + 7) 0 0 p 0 p [], [ws], (1, m + 1)) := by
  have e0 : W64 = 18446744073709551616 := W64_eq
  have g3 : ws.length < 1000000 := by omega
  have hcl : C.length = 1 := by rw [hC]; rfl
  have b1 : 4 * m + 7 < 18446744073709551616 := by omega
  have b2 : 4 * m + 7 < 1000000 := by omega
  have b3 : m + 1 < 18446744073709551616 := by omega
  have b4 : (m + 1) % 18446744073709551616 = m + 1 := Nat.mod_eq_of_lt b3
  have g1 : m + 1 < ws.length := by omega
  have hp' : ws[m + 1] = p := by rw [List.getElem?_eq_getElem g1] at hp; exact hp
  have s0 := ins_at C _ _ hC (4 * m + 3) ⟨1, 0, 19, 9, 0, 0, m + 1⟩ (move_slot n m 0 (by omega) (by omega))
  have s1 := ins_at C _ _ hC (4 * m + 4) ⟨19, 0, 19, 9, 0, 0, 4 * m + 7⟩ (move_slot n m 1 (by omega) (by omega))
  have s1b := ins_at C _ _ hC (4 * m + 3 + 1) ⟨19, 0, 19, 9, 0, 0, 4 * m + 7⟩ (move_slot n m 1 (by omega) (by omega))
  have s2 := ins_at C _ _ hC (4 * m + 5) ⟨19, 0, 19, 17, 0, 0, 4 * m + 7⟩ (move_slot n m 2 (by omega) (by omega))
  have s2b := ins_at C _ _ hC (4 * m + 4 + 1) ⟨19, 0, 19, 17, 0, 0, 4 * m + 7⟩ (move_slot n m 2 (by omega) (by omega))
  have n0 := ins_at C _ _ hC (4 * m + 7) ⟨1, 0, 19, 9, 0, 0, m + 1 + 1⟩ (by have := move_slot n (m + 1) 0 (by omega) (by omega); rwa [show 4 * (m + 1) + 3 + 0 = 4 * m + 7 from by omega] at this)
  clear hC hl
  simp (config := { maxSteps := 400000 }) [TT, TD, Ins.fin, Th.on, Th.begun, isOp, Th.op, Th.does, Ins.fit, Th.place, reg, wordAt, setWord, Th.own, Ins.known, Th.told, mz.own, Cs.put, Cs.go, Th.finish, e0, hcl, g3, b1, b2, b3, b4, g1, hp', hp0, s0, s1, s1b, s2, s2b, n0]
set_option maxRecDepth 100000 in
set_option maxHeartbeats 2000000 in
theorem mv_laste (hC : C = [(moveCode n, [])]) (hn : n < 1000) (hl : ws.length = n + 1) (hm : m + 1 = n) (he : p < 1000000) (hp : ws[m + 1]?.getD 0 = p) (hp0 : ¬ p = 0) :
    (TT C (4 * m + 3) 0 0 p 0 x []).op 40 [ws] = some (TT C (4 * m + 8) 0 0 p (p + 1) p [], [ws], (1, m + 1)) := by
  have e0 : W64 = 18446744073709551616 := W64_eq
  have g3 : ws.length < 1000000 := by omega
  have hcl : C.length = 1 := by rw [hC]; rfl
  have b1 : 4 * m + 7 < 18446744073709551616 := by omega
  have b2 : 4 * m + 7 < 1000000 := by omega
  have b3 : m + 1 < 18446744073709551616 := by omega
  have b4 : (m + 1) % 18446744073709551616 = m + 1 := Nat.mod_eq_of_lt b3
  have g1 : m + 1 < ws.length := by omega
  have hp' : ws[m + 1] = p := by rw [List.getElem?_eq_getElem g1] at hp; exact hp
  have he1 : (p + 1) % 18446744073709551616 = p + 1 := Nat.mod_eq_of_lt (by omega)
  have s0 := ins_at C _ _ hC (4 * m + 3) ⟨1, 0, 19, 9, 0, 0, m + 1⟩ (move_slot n m 0 (by omega) (by omega))
  have s1 := ins_at C _ _ hC (4 * m + 4) ⟨19, 0, 19, 9, 0, 0, 4 * m + 7⟩ (move_slot n m 1 (by omega) (by omega))
  have s1b := ins_at C _ _ hC (4 * m + 3 + 1) ⟨19, 0, 19, 9, 0, 0, 4 * m + 7⟩ (move_slot n m 1 (by omega) (by omega))
  have s2 := ins_at C _ _ hC (4 * m + 5) ⟨19, 0, 19, 17, 0, 0, 4 * m + 7⟩ (move_slot n m 2 (by omega) (by omega))
  have s2b := ins_at C _ _ hC (4 * m + 4 + 1) ⟨19, 0, 19, 17, 0, 0, 4 * m + 7⟩ (move_slot n m 2 (by omega) (by omega))
  have n0 := ins_at C _ _ hC (4 * m + 7) ⟨8, 0, 18, 17, 9, 0, 1⟩ (by have := move_tail n 0 (by omega); rwa [show 4 * n + 3 + 0 = 4 * m + 7 from by omega] at this)
  have n1 := ins_at C _ _ hC (4 * m + 8) ⟨5, 0, 1, 9, 17, 18, 0⟩ (by have := move_tail n 1 (by omega); rwa [show 4 * n + 3 + 1 = 4 * m + 8 from by omega] at this)
  have n1b := ins_at C _ _ hC (4 * m + 7 + 1) ⟨5, 0, 1, 9, 17, 18, 0⟩ (by have := move_tail n 1 (by omega); rwa [show 4 * n + 3 + 1 = 4 * m + 7 + 1 from by omega] at this)
  clear hC hl
  simp (config := { maxSteps := 400000 }) [TT, TD, Ins.fin, Th.on, Th.begun, isOp, Th.op, Th.does, Ins.fit, Th.place, reg, wordAt, setWord, Th.own, Ins.known, Th.told, mz.own, Cs.put, Cs.go, Th.finish, e0, hcl, g3, b1, b2, b3, b4, g1, hp', hp0, he1, s0, s1, s1b, s2, s2b, n0, n1, n1b]
set_option maxRecDepth 100000 in
set_option maxHeartbeats 2000000 in
theorem mv_no (hC : C = [(moveCode n, [])]) (hn : n < 1000) (hl : ws.length = n + 1) (hm : m < n) (hp : ws[m + 1]?.getD 0 = p) (hp0 : ¬ p = 0) (hpe : ¬ p = e) :
    (TT C (4 * m + 3) 0 0 e 0 x []).op 40 [ws] = some (TD C [0, 0], [ws], (1, m + 1)) := by
  have e0 : W64 = 18446744073709551616 := W64_eq
  have g3 : ws.length < 1000000 := by omega
  have hcl : C.length = 1 := by rw [hC]; rfl
  have b1 : 4 * m + 7 < 18446744073709551616 := by omega
  have b2 : 4 * m + 7 < 1000000 := by omega
  have b3 : m + 1 < 18446744073709551616 := by omega
  have b4 : (m + 1) % 18446744073709551616 = m + 1 := Nat.mod_eq_of_lt b3
  have g1 : m + 1 < ws.length := by omega
  have hp' : ws[m + 1] = p := by rw [List.getElem?_eq_getElem g1] at hp; exact hp
  have c1 : 4 * n + 7 < 18446744073709551616 := by omega
  have c2 : 4 * n + 7 < 1000000 := by omega
  have s0 := ins_at C _ _ hC (4 * m + 3) ⟨1, 0, 19, 9, 0, 0, m + 1⟩ (move_slot n m 0 (by omega) (by omega))
  have s1 := ins_at C _ _ hC (4 * m + 4) ⟨19, 0, 19, 9, 0, 0, 4 * m + 7⟩ (move_slot n m 1 (by omega) (by omega))
  have s1b := ins_at C _ _ hC (4 * m + 3 + 1) ⟨19, 0, 19, 9, 0, 0, 4 * m + 7⟩ (move_slot n m 1 (by omega) (by omega))
  have s2 := ins_at C _ _ hC (4 * m + 5) ⟨19, 0, 19, 17, 0, 0, 4 * m + 7⟩ (move_slot n m 2 (by omega) (by omega))
  have s2b := ins_at C _ _ hC (4 * m + 4 + 1) ⟨19, 0, 19, 17, 0, 0, 4 * m + 7⟩ (move_slot n m 2 (by omega) (by omega))
  have s3 := ins_at C _ _ hC (4 * m + 6) ⟨18, 0, 0, 0, 0, 0, 4 * n + 7⟩ (move_slot n m 3 (by omega) (by omega))
  have s3b := ins_at C _ _ hC (4 * m + 5 + 1) ⟨18, 0, 0, 0, 0, 0, 4 * n + 7⟩ (move_slot n m 3 (by omega) (by omega))
  have t4 := ins_at C _ _ hC (4 * n + 7) ⟨22, 0, 0, 0, 0, 0, 0⟩ (move_tail n 4 (by omega))
  have t4b := ins_at C _ _ hC (4 * n + 6 + 1) ⟨22, 0, 0, 0, 0, 0, 0⟩ (move_tail n 4 (by omega))
  have t5 := ins_at C _ _ hC (4 * n + 8) ⟨22, 0, 1, 0, 0, 0, 0⟩ (move_tail n 5 (by omega))
  have t5b := ins_at C _ _ hC (4 * n + 7 + 1) ⟨22, 0, 1, 0, 0, 0, 0⟩ (move_tail n 5 (by omega))
  have t6 := ins_at C _ _ hC (4 * n + 9) Ins.fin (move_tail n 6 (by omega))
  have t6b := ins_at C _ _ hC (4 * n + 8 + 1) Ins.fin (move_tail n 6 (by omega))
  clear hC hl
  simp (config := { maxSteps := 400000 }) [TT, TD, Ins.fin, Th.on, Th.begun, isOp, Th.op, Th.does, Ins.fit, Th.place, reg, wordAt, setWord, Th.own, Ins.known, Th.told, mz.own, Cs.put, Cs.go, Th.finish, e0, hcl, g3, b1, b2, b3, b4, g1, hp', hp0, hpe, c1, c2, s0, s1, s1b, s2, s2b, s3, s3b, t4, t4b, t5, t5b, t6, t6b]
set_option maxRecDepth 100000 in
set_option maxHeartbeats 2000000 in
theorem mv_cas (hC : C = [(moveCode n, [])]) (hn : n < 1000) (hl : ws.length = n + 1) (h0 : ws[0]?.getD 0 = e) :
    (TT C (4 * n + 4) 0 0 e (e + 1) x []).op 40 [ws] = some (TD C [e + 1, 1], [ws.set 0 (e + 1)], (5, 0)) := by
  have e0 : W64 = 18446744073709551616 := W64_eq
  have g3 : ws.length < 1000000 := by omega
  have hcl : C.length = 1 := by rw [hC]; rfl
  have c1 : 4 * n + 7 < 18446744073709551616 := by omega
  have c2 : 4 * n + 7 < 1000000 := by omega
  have g0 : 0 < ws.length := by omega
  have h0' : ws[0] = e := by rw [List.getElem?_eq_getElem g0] at h0; exact h0
  have t1 := ins_at C _ _ hC (4 * n + 4) ⟨5, 0, 1, 9, 17, 18, 0⟩ (move_tail n 1 (by omega))
  have t1b := ins_at C _ _ hC (4 * n + 3 + 1) ⟨5, 0, 1, 9, 17, 18, 0⟩ (move_tail n 1 (by omega))
  have t2 := ins_at C _ _ hC (4 * n + 5) ⟨19, 0, 1, 9, 0, 0, 4 * n + 7⟩ (move_tail n 2 (by omega))
  have t2b := ins_at C _ _ hC (4 * n + 4 + 1) ⟨19, 0, 1, 9, 0, 0, 4 * n + 7⟩ (move_tail n 2 (by omega))
  have t3 := ins_at C _ _ hC (4 * n + 6) ⟨7, 0, 0, 18, 0, 0, 0⟩ (move_tail n 3 (by omega))
  have t3b := ins_at C _ _ hC (4 * n + 5 + 1) ⟨7, 0, 0, 18, 0, 0, 0⟩ (move_tail n 3 (by omega))
  have t4 := ins_at C _ _ hC (4 * n + 7) ⟨22, 0, 0, 0, 0, 0, 0⟩ (move_tail n 4 (by omega))
  have t4b := ins_at C _ _ hC (4 * n + 6 + 1) ⟨22, 0, 0, 0, 0, 0, 0⟩ (move_tail n 4 (by omega))
  have t5 := ins_at C _ _ hC (4 * n + 8) ⟨22, 0, 1, 0, 0, 0, 0⟩ (move_tail n 5 (by omega))
  have t5b := ins_at C _ _ hC (4 * n + 7 + 1) ⟨22, 0, 1, 0, 0, 0, 0⟩ (move_tail n 5 (by omega))
  have t6 := ins_at C _ _ hC (4 * n + 9) Ins.fin (move_tail n 6 (by omega))
  have t6b := ins_at C _ _ hC (4 * n + 8 + 1) Ins.fin (move_tail n 6 (by omega))
  clear hC hl
  simp (config := { maxSteps := 400000 }) [TT, TD, Ins.fin, Th.on, Th.begun, isOp, Th.op, Th.does, Ins.fit, Th.place, reg, wordAt, setWord, Th.own, Ins.known, Th.told, mz.own, Cs.put, Cs.go, Th.finish, e0, hcl, g3, h0', g0, c1, c2, t1, t1b, t2, t2b, t3, t3b, t4, t4b, t5, t5b, t6, t6b]
end
end Go.Proofs.Ytebjmmckejbklaa.rf9
