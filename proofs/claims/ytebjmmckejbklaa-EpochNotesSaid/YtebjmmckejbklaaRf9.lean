/-
  patchbayref09: the codes of Now, Pin, Unpin, Move, Safe, Fails, and the plain machine at them, over whatever words.
-/
import Derived.Test.YtebjmmckejbklaaMzQ
import Derived.Test.YtebjmmckejbklaaEpAll
set_option linter.unusedSimpArgs false
set_option linter.unusedVariables false
namespace Go.Proofs.Ytebjmmckejbklaa.rf9
open Go.Proofs.Ytebjmmckejbklaa.mz Go.Proofs.Ytebjmmckejbklaa.ep
def nowCode : List Ins := [⟨1, 0, 17, 9, 0, 0, 0⟩, ⟨22, 0, 17, 0, 0, 0, 0⟩]
def pinAt (k : Nat) : List Ins := [⟨6, 0, 0, 0, 0, 0, 0⟩, ⟨6, 0, 1, 0, 0, 0, 90⟩, ⟨1, 0, 19, 9, 0, 0, k + 1⟩, ⟨19, 0, 19, 9, 0, 0, 5⟩, ⟨18, 0, 0, 0, 0, 0, 13⟩, ⟨1, 0, 17, 9, 0, 0, 0⟩, ⟨2, 0, 17, 9, 0, 0, k + 1⟩, ⟨1, 0, 18, 9, 0, 0, 0⟩, ⟨7, 0, 0, 17, 0, 0, 0⟩, ⟨7, 0, 17, 18, 0, 0, 0⟩, ⟨19, 0, 0, 18, 0, 0, 12⟩, ⟨18, 0, 0, 0, 0, 0, 6⟩, ⟨6, 0, 1, 0, 0, 0, 0⟩]
def unpinAt (k : Nat) : List Ins := [⟨6, 0, 1, 0, 0, 0, 90⟩, ⟨1, 0, 19, 9, 0, 0, k + 1⟩, ⟨19, 0, 19, 9, 0, 0, 5⟩, ⟨6, 0, 1, 0, 0, 0, 0⟩, ⟨2, 0, 9, 9, 0, 0, k + 1⟩]
def safeCode (q : Nat) : List Ins := [⟨1, 0, 17, 9, 0, 0, 0⟩, ⟨6, 0, 18, 0, 0, 0, 2⟩, ⟨20, 0, 17, 18, 0, 0, 8⟩, ⟨9, 0, 17, 17, 18, 0, 0⟩, ⟨6, 0, 19, 0, 0, 0, q⟩, ⟨20, 0, 17, 19, 0, 0, 8⟩, ⟨6, 0, 20, 0, 0, 0, 1⟩, ⟨18, 0, 0, 0, 0, 0, 8⟩, ⟨22, 0, 20, 0, 0, 0, 0⟩]
def pinCode (k : Nat) : List Ins := pinAt k ++ [⟨22, 0, 0, 0, 0, 0, 0⟩, ⟨22, 0, 1, 0, 0, 0, 0⟩]
def unpinCode (k : Nat) : List Ins := unpinAt k ++ [⟨22, 0, 1, 0, 0, 0, 0⟩]
def failsCode (z e : Nat) : List Ins := ⟨6, 0, 20, 0, 0, 0, e⟩ :: (List.replicate z ⟨22, 0, 9, 0, 0, 0, 0⟩ ++ [⟨22, 0, 20, 0, 0, 0, 0⟩])
def quad (E i : Nat) : List Ins := [⟨1, 0, 19, 9, 0, 0, i + 1⟩, ⟨19, 0, 19, 9, 0, 0, 4 * i + 7⟩, ⟨19, 0, 19, 17, 0, 0, 4 * i + 7⟩, ⟨18, 0, 0, 0, 0, 0, E⟩]
def quads (E : Nat) : Nat → Nat → List Ins
  | _, 0 => []
  | i, k + 1 => quad E i ++ quads E (i + 1) k
theorem quads_snoc (E : Nat) : ∀ (k i : Nat), quads E i (k + 1) = quads E i k ++ quad E (i + k)
  | 0, i => by simp [quads]
  | k + 1, i => by
    show quad E i ++ quads E (i + 1) (k + 1) = (quad E i ++ quads E (i + 1) k) ++ quad E (i + (k + 1))
    rw [quads_snoc E k (i + 1), List.append_assoc, show i + 1 + k = i + (k + 1) from by omega]
theorem quads_len (E : Nat) : ∀ (k i : Nat), (quads E i k).length = 4 * k
  | 0, i => rfl
  | k + 1, i => by rw [quads, List.length_append, quads_len E k (i + 1)]; simp [quad]; omega
theorem quads_at (E : Nat) : ∀ (k i m j : Nat), m < k → j < 4 → (quads E i k)[4 * m + j]? = (quad E (i + m))[j]?
  | 0, i, m, j, h, _ => absurd h (Nat.not_lt_zero _)
  | k + 1, i, 0, j, h, hj => by
    rw [quads, Nat.mul_zero, Nat.zero_add, List.getElem?_append_left (by simp [quad] <;> omega)]; rfl
  | k + 1, i, m + 1, j, h, hj => by
    rw [quads, List.getElem?_append_right (by simp [quad] <;> omega), show 4 * (m + 1) + j - (quad E i).length = 4 * m + j from by simp [quad] <;> omega, quads_at E k (i + 1) m j (by omega) hj, show i + 1 + m = i + (m + 1) from by omega]
def moveHead : List Ins := [⟨6, 0, 0, 0, 0, 0, 0⟩, ⟨6, 0, 1, 0, 0, 0, 0⟩, ⟨1, 0, 17, 9, 0, 0, 0⟩]
def moveTail (n : Nat) : List Ins := [⟨8, 0, 18, 17, 9, 0, 1⟩, ⟨5, 0, 1, 9, 17, 18, 0⟩, ⟨19, 0, 1, 9, 0, 0, 4 * n + 7⟩, ⟨7, 0, 0, 18, 0, 0, 0⟩]
def moveAt (n : Nat) : List Ins := moveHead ++ quads (4 * n + 7) 0 n ++ moveTail n
def moveCode (n : Nat) : List Ins := moveAt n ++ [⟨22, 0, 0, 0, 0, 0, 0⟩, ⟨22, 0, 1, 0, 0, 0, 0⟩]
theorem move_len (n : Nat) : (moveAt n).length = 4 * n + 7 ∧ (moveCode n).length = 4 * n + 9 := by
  simp [moveCode, moveAt, moveHead, moveTail, quads_len] <;> omega
theorem move_slot (n m j : Nat) (hm : m < n) (hj : j < 4) : (moveCode n).getD (4 * m + 3 + j) Ins.fin = (quad (4 * n + 7) m).getD j Ins.fin := by
  have e : (moveCode n)[4 * m + 3 + j]? = (quad (4 * n + 7) m)[j]? := by
    unfold moveCode moveAt
    rw [List.getElem?_append_left (by simp [moveHead, moveTail, quads_len] <;> omega), List.getElem?_append_left (by simp [moveHead, quads_len] <;> omega), List.getElem?_append_right (by simp [moveHead] <;> omega), show 4 * m + 3 + j - moveHead.length = 4 * m + j from by simp [moveHead] <;> omega, quads_at _ n 0 m j hm hj, Nat.zero_add]
  rw [List.getD_eq_getElem?_getD, e, List.getD_eq_getElem?_getD]
theorem move_tail (n j : Nat) (hj : j < 7) : (moveCode n).getD (4 * n + 3 + j) Ins.fin = (moveTail n ++ ([⟨22, 0, 0, 0, 0, 0, 0⟩, ⟨22, 0, 1, 0, 0, 0, 0⟩] : List Ins)).getD j Ins.fin := by
  have e : (moveCode n)[4 * n + 3 + j]? = (moveTail n ++ [⟨22, 0, 0, 0, 0, 0, 0⟩, ⟨22, 0, 1, 0, 0, 0, 0⟩])[j]? := by
    unfold moveCode moveAt
    rw [List.append_assoc, List.getElem?_append_right (by simp [moveHead, quads_len] <;> omega), show 4 * n + 3 + j - (moveHead ++ quads (4 * n + 7) 0 n).length = j from by simp [moveHead, quads_len] <;> omega]
  rw [List.getD_eq_getElem?_getD, e, List.getD_eq_getElem?_getD]
theorem ins_at (C : List (List Ins × List Nat)) (c : List Ins) (d : List Nat) (hC : C = [(c, d)]) (k : Nat) (x : Ins) (h : c.getD k Ins.fin = x) (rs : List Nat) (ans : List (Bool × List Nat)) (ov : Bool) : Th.ins ⟨C, 0, k, rs, ans, ov⟩ = x := by
  subst hC; exact h
section
variable {n k e p q : Nat} {ws : List Nat}
set_option maxRecDepth 100000 in
set_option maxHeartbeats 4000000 in
theorem play_now (hl : ws.length = n + 1) (hn : n < 1000) (h0 : ws[0]?.getD 0 = e) :
    ∃ pl, plays 40 10 [ws] [] [[(nowCode, [])]] = some pl ∧ pl.ws = [ws] ∧ pl.trace = [(0, 1, 0)] ∧ pl.ths.map (·.ans) = [[(true, [e])]] := by
  have e0 : W64 = 18446744073709551616 := W64_eq
  have g0 : 0 < ws.length := by omega
  have g3 : ws.length < 1000000 := by omega
  have h0' : ws[0] = e := by rw [List.getElem?_eq_getElem g0] at h0; exact h0
  obtain ⟨C, hC⟩ : ∃ C, C = [(nowCode, ([] : List Nat))] := ⟨_, rfl⟩
  have hcl : C.length = 1 := by rw [hC]; rfl
  have f0 := ins_at C _ _ hC 0 ⟨1, 0, 17, 9, 0, 0, 0⟩ rfl
  have f1 := ins_at C _ _ hC 1 ⟨22, 0, 17, 0, 0, 0, 0⟩ rfl
  have f2 := ins_at C _ _ hC 2 Ins.fin rfl
  rw [← hC]
  clear hC hl
  simp (config := { maxSteps := 1000000 }) [plays, Ins.fin, Pl.starts, Th.fresh, Th.on, Th.begun, isOp, Pl.byOrder, Pl.rounds, Pl.round, Pl.over, Pl.turn, Th.op, Th.does, Ins.fit, Th.place, reg, wordAt, setWord, Th.own, Ins.known, Th.told, mz.own, Cs.put, Cs.go, Th.finish, e0, hcl, g0, g3, h0', f0, f1, f2]
set_option maxRecDepth 100000 in
set_option maxHeartbeats 4000000 in
theorem play_pin_no (hl : ws.length = n + 1) (hn : n < 1000) (hk : k < n) (hp : ws[k + 1]?.getD 0 = p) (hp0 : ¬ p = 0) :
    ∃ pl, plays 40 10 [ws] [] [[(pinCode k, [])]] = some pl ∧ pl.ws = [ws] ∧ pl.trace = [(0, 1, k + 1)] ∧ pl.ths.map (·.ans) = [[(true, [0, 90])]] := by
  have e0 : W64 = 18446744073709551616 := W64_eq
  have g0 : 0 < ws.length := by omega
  have g3 : ws.length < 1000000 := by omega
  have g1 : k + 1 < ws.length := by omega
  have k1 : (k + 1) % 18446744073709551616 = k + 1 := Nat.mod_eq_of_lt (by omega)
  have k2 : k + 1 < 18446744073709551616 := by omega
  have hp' : ws[k + 1] = p := by rw [List.getElem?_eq_getElem g1] at hp; exact hp
  obtain ⟨C, hC⟩ : ∃ C, C = [(pinCode k, ([] : List Nat))] := ⟨_, rfl⟩
  have hcl : C.length = 1 := by rw [hC]; rfl
  have f0 := ins_at C _ _ hC 0 ⟨6, 0, 0, 0, 0, 0, 0⟩ rfl
  have f1 := ins_at C _ _ hC 1 ⟨6, 0, 1, 0, 0, 0, 90⟩ rfl
  have f2 := ins_at C _ _ hC 2 ⟨1, 0, 19, 9, 0, 0, k + 1⟩ rfl
  have f3 := ins_at C _ _ hC 3 ⟨19, 0, 19, 9, 0, 0, 5⟩ rfl
  have f4 := ins_at C _ _ hC 4 ⟨18, 0, 0, 0, 0, 0, 13⟩ rfl
  have f13 := ins_at C _ _ hC 13 ⟨22, 0, 0, 0, 0, 0, 0⟩ rfl
  have f14 := ins_at C _ _ hC 14 ⟨22, 0, 1, 0, 0, 0, 0⟩ rfl
  have f15 := ins_at C _ _ hC 15 Ins.fin rfl
  rw [← hC]
  clear hC hl
  simp (config := { maxSteps := 1000000 }) [plays, Ins.fin, Pl.starts, Th.fresh, Th.on, Th.begun, isOp, Pl.byOrder, Pl.rounds, Pl.round, Pl.over, Pl.turn, Th.op, Th.does, Ins.fit, Th.place, reg, wordAt, setWord, Th.own, Ins.known, Th.told, mz.own, Cs.put, Cs.go, Th.finish, e0, hcl, g0, g3, hp', hp0, g1, k1, k2, f0, f1, f2, f3, f4, f13, f14, f15]
set_option maxRecDepth 100000 in
set_option maxHeartbeats 4000000 in
theorem play_pin_yes (hl : ws.length = n + 1) (hn : n < 1000) (hk : k < n) (h0 : ws[0]?.getD 0 = e) (hp : ws[k + 1]?.getD 0 = p) (hp0 : p = 0) :
    ∃ pl, plays 40 10 [ws] [] [[(pinCode k, [])]] = some pl ∧ pl.ws = [ws.set (k + 1) e] ∧ pl.trace = [(0, 1, k + 1), (0, 1, 0), (0, 2, k + 1), (0, 1, 0)] ∧ pl.ths.map (·.ans) = [[(true, [e, 0])]] := by
  have e0 : W64 = 18446744073709551616 := W64_eq
  have g0 : 0 < ws.length := by omega
  have g3 : ws.length < 1000000 := by omega
  have h0' : ws[0] = e := by rw [List.getElem?_eq_getElem g0] at h0; exact h0
  have g1 : k + 1 < ws.length := by omega
  have k1 : (k + 1) % 18446744073709551616 = k + 1 := Nat.mod_eq_of_lt (by omega)
  have k2 : k + 1 < 18446744073709551616 := by omega
  have hp' : ws[k + 1] = p := by rw [List.getElem?_eq_getElem g1] at hp; exact hp
  obtain ⟨C, hC⟩ : ∃ C, C = [(pinCode k, ([] : List Nat))] := ⟨_, rfl⟩
  have hcl : C.length = 1 := by rw [hC]; rfl
  have f0 := ins_at C _ _ hC 0 ⟨6, 0, 0, 0, 0, 0, 0⟩ rfl
  have f1 := ins_at C _ _ hC 1 ⟨6, 0, 1, 0, 0, 0, 90⟩ rfl
  have f2 := ins_at C _ _ hC 2 ⟨1, 0, 19, 9, 0, 0, k + 1⟩ rfl
  have f3 := ins_at C _ _ hC 3 ⟨19, 0, 19, 9, 0, 0, 5⟩ rfl
  have f5 := ins_at C _ _ hC 5 ⟨1, 0, 17, 9, 0, 0, 0⟩ rfl
  have f6 := ins_at C _ _ hC 6 ⟨2, 0, 17, 9, 0, 0, k + 1⟩ rfl
  have f7 := ins_at C _ _ hC 7 ⟨1, 0, 18, 9, 0, 0, 0⟩ rfl
  have f8 := ins_at C _ _ hC 8 ⟨7, 0, 0, 17, 0, 0, 0⟩ rfl
  have f9 := ins_at C _ _ hC 9 ⟨7, 0, 17, 18, 0, 0, 0⟩ rfl
  have f10 := ins_at C _ _ hC 10 ⟨19, 0, 0, 18, 0, 0, 12⟩ rfl
  have f12 := ins_at C _ _ hC 12 ⟨6, 0, 1, 0, 0, 0, 0⟩ rfl
  have f13 := ins_at C _ _ hC 13 ⟨22, 0, 0, 0, 0, 0, 0⟩ rfl
  have f14 := ins_at C _ _ hC 14 ⟨22, 0, 1, 0, 0, 0, 0⟩ rfl
  have f15 := ins_at C _ _ hC 15 Ins.fin rfl
  rw [← hC]
  clear hC hl
  simp (config := { maxSteps := 1000000 }) [plays, Ins.fin, Pl.starts, Th.fresh, Th.on, Th.begun, isOp, Pl.byOrder, Pl.rounds, Pl.round, Pl.over, Pl.turn, Th.op, Th.does, Ins.fit, Th.place, reg, wordAt, setWord, Th.own, Ins.known, Th.told, mz.own, Cs.put, Cs.go, Th.finish, e0, hcl, g0, g3, h0', hp', hp0, g1, k1, k2, f0, f1, f2, f3, f5, f6, f7, f8, f9, f10, f12, f13, f14, f15]
set_option maxRecDepth 100000 in
set_option maxHeartbeats 4000000 in
theorem play_unpin_no (hl : ws.length = n + 1) (hn : n < 1000) (hk : k < n) (hp : ws[k + 1]?.getD 0 = p) (hp0 : p = 0) :
    ∃ pl, plays 40 10 [ws] [] [[(unpinCode k, [])]] = some pl ∧ pl.ws = [ws] ∧ pl.trace = [(0, 1, k + 1)] ∧ pl.ths.map (·.ans) = [[(true, [90])]] := by
  have e0 : W64 = 18446744073709551616 := W64_eq
  have g0 : 0 < ws.length := by omega
  have g3 : ws.length < 1000000 := by omega
  have g1 : k + 1 < ws.length := by omega
  have k1 : (k + 1) % 18446744073709551616 = k + 1 := Nat.mod_eq_of_lt (by omega)
  have k2 : k + 1 < 18446744073709551616 := by omega
  have hp' : ws[k + 1] = p := by rw [List.getElem?_eq_getElem g1] at hp; exact hp
  obtain ⟨C, hC⟩ : ∃ C, C = [(unpinCode k, ([] : List Nat))] := ⟨_, rfl⟩
  have hcl : C.length = 1 := by rw [hC]; rfl
  have f0 := ins_at C _ _ hC 0 ⟨6, 0, 1, 0, 0, 0, 90⟩ rfl
  have f1 := ins_at C _ _ hC 1 ⟨1, 0, 19, 9, 0, 0, k + 1⟩ rfl
  have f2 := ins_at C _ _ hC 2 ⟨19, 0, 19, 9, 0, 0, 5⟩ rfl
  have f5 := ins_at C _ _ hC 5 ⟨22, 0, 1, 0, 0, 0, 0⟩ rfl
  have f6 := ins_at C _ _ hC 6 Ins.fin rfl
  rw [← hC]
  clear hC hl
  simp (config := { maxSteps := 1000000 }) [plays, Ins.fin, Pl.starts, Th.fresh, Th.on, Th.begun, isOp, Pl.byOrder, Pl.rounds, Pl.round, Pl.over, Pl.turn, Th.op, Th.does, Ins.fit, Th.place, reg, wordAt, setWord, Th.own, Ins.known, Th.told, mz.own, Cs.put, Cs.go, Th.finish, e0, hcl, g0, g3, hp', hp0, g1, k1, k2, f0, f1, f2, f5, f6]
set_option maxRecDepth 100000 in
set_option maxHeartbeats 4000000 in
theorem play_unpin_yes (hl : ws.length = n + 1) (hn : n < 1000) (hk : k < n) (hp : ws[k + 1]?.getD 0 = p) (hp0 : ¬ p = 0) :
    ∃ pl, plays 40 10 [ws] [] [[(unpinCode k, [])]] = some pl ∧ pl.ws = [ws.set (k + 1) 0] ∧ pl.trace = [(0, 1, k + 1), (0, 2, k + 1)] ∧ pl.ths.map (·.ans) = [[(true, [0])]] := by
  have e0 : W64 = 18446744073709551616 := W64_eq
  have g0 : 0 < ws.length := by omega
  have g3 : ws.length < 1000000 := by omega
  have g1 : k + 1 < ws.length := by omega
  have k1 : (k + 1) % 18446744073709551616 = k + 1 := Nat.mod_eq_of_lt (by omega)
  have k2 : k + 1 < 18446744073709551616 := by omega
  have hp' : ws[k + 1] = p := by rw [List.getElem?_eq_getElem g1] at hp; exact hp
  obtain ⟨C, hC⟩ : ∃ C, C = [(unpinCode k, ([] : List Nat))] := ⟨_, rfl⟩
  have hcl : C.length = 1 := by rw [hC]; rfl
  have f0 := ins_at C _ _ hC 0 ⟨6, 0, 1, 0, 0, 0, 90⟩ rfl
  have f1 := ins_at C _ _ hC 1 ⟨1, 0, 19, 9, 0, 0, k + 1⟩ rfl
  have f2 := ins_at C _ _ hC 2 ⟨19, 0, 19, 9, 0, 0, 5⟩ rfl
  have f3 := ins_at C _ _ hC 3 ⟨6, 0, 1, 0, 0, 0, 0⟩ rfl
  have f4 := ins_at C _ _ hC 4 ⟨2, 0, 9, 9, 0, 0, k + 1⟩ rfl
  have f5 := ins_at C _ _ hC 5 ⟨22, 0, 1, 0, 0, 0, 0⟩ rfl
  have f6 := ins_at C _ _ hC 6 Ins.fin rfl
  rw [← hC]
  clear hC hl
  simp (config := { maxSteps := 1000000 }) [plays, Ins.fin, Pl.starts, Th.fresh, Th.on, Th.begun, isOp, Pl.byOrder, Pl.rounds, Pl.round, Pl.over, Pl.turn, Th.op, Th.does, Ins.fit, Th.place, reg, wordAt, setWord, Th.own, Ins.known, Th.told, mz.own, Cs.put, Cs.go, Th.finish, e0, hcl, g0, g3, hp', hp0, g1, k1, k2, f0, f1, f2, f3, f4, f5, f6]
set_option maxRecDepth 100000 in
set_option maxHeartbeats 4000000 in
theorem play_safe_low (hl : ws.length = n + 1) (hn : n < 1000) (hq : q < 18446744073709551616) (h0 : ws[0]?.getD 0 = e) (he : e < 2) :
    ∃ pl, plays 40 10 [ws] [] [[(safeCode q, [])]] = some pl ∧ pl.ws = [ws] ∧ pl.trace = [(0, 1, 0)] ∧ pl.ths.map (·.ans) = [[(true, [0])]] := by
  have e0 : W64 = 18446744073709551616 := W64_eq
  have g0 : 0 < ws.length := by omega
  have g3 : ws.length < 1000000 := by omega
  have h0' : ws[0] = e := by rw [List.getElem?_eq_getElem g0] at h0; exact h0
  have q1 : q < 18446744073709551616 := hq
  obtain ⟨C, hC⟩ : ∃ C, C = [(safeCode q, ([] : List Nat))] := ⟨_, rfl⟩
  have hcl : C.length = 1 := by rw [hC]; rfl
  have f0 := ins_at C _ _ hC 0 ⟨1, 0, 17, 9, 0, 0, 0⟩ rfl
  have f1 := ins_at C _ _ hC 1 ⟨6, 0, 18, 0, 0, 0, 2⟩ rfl
  have f2 := ins_at C _ _ hC 2 ⟨20, 0, 17, 18, 0, 0, 8⟩ rfl
  have f8 := ins_at C _ _ hC 8 ⟨22, 0, 20, 0, 0, 0, 0⟩ rfl
  have f9 := ins_at C _ _ hC 9 Ins.fin rfl
  rw [← hC]
  clear hC hl
  simp (config := { maxSteps := 1000000 }) [plays, Ins.fin, Pl.starts, Th.fresh, Th.on, Th.begun, isOp, Pl.byOrder, Pl.rounds, Pl.round, Pl.over, Pl.turn, Th.op, Th.does, Ins.fit, Th.place, reg, wordAt, setWord, Th.own, Ins.known, Th.told, mz.own, Cs.put, Cs.go, Th.finish, e0, hcl, g0, g3, h0', he, q1, f0, f1, f2, f8, f9]
set_option maxRecDepth 100000 in
set_option maxHeartbeats 4000000 in
theorem play_safe_no (hl : ws.length = n + 1) (hn : n < 1000) (hq : q < 18446744073709551616) (h0 : ws[0]?.getD 0 = e) (he : 2 ≤ e) (he2 : e < 1000000) (hlt : e - 2 < q) :
    ∃ pl, plays 40 10 [ws] [] [[(safeCode q, [])]] = some pl ∧ pl.ws = [ws] ∧ pl.trace = [(0, 1, 0)] ∧ pl.ths.map (·.ans) = [[(true, [0])]] := by
  have e0 : W64 = 18446744073709551616 := W64_eq
  have g0 : 0 < ws.length := by omega
  have g3 : ws.length < 1000000 := by omega
  have h0' : ws[0] = e := by rw [List.getElem?_eq_getElem g0] at h0; exact h0
  have q1 : q < 18446744073709551616 := hq
  have hd : (e + 18446744073709551614) % 18446744073709551616 = e - 2 := by omega
  have he' : ¬ e < 2 := by omega
  obtain ⟨C, hC⟩ : ∃ C, C = [(safeCode q, ([] : List Nat))] := ⟨_, rfl⟩
  have hcl : C.length = 1 := by rw [hC]; rfl
  have f0 := ins_at C _ _ hC 0 ⟨1, 0, 17, 9, 0, 0, 0⟩ rfl
  have f1 := ins_at C _ _ hC 1 ⟨6, 0, 18, 0, 0, 0, 2⟩ rfl
  have f2 := ins_at C _ _ hC 2 ⟨20, 0, 17, 18, 0, 0, 8⟩ rfl
  have f3 := ins_at C _ _ hC 3 ⟨9, 0, 17, 17, 18, 0, 0⟩ rfl
  have f4 := ins_at C _ _ hC 4 ⟨6, 0, 19, 0, 0, 0, q⟩ rfl
  have f5 := ins_at C _ _ hC 5 ⟨20, 0, 17, 19, 0, 0, 8⟩ rfl
  have f8 := ins_at C _ _ hC 8 ⟨22, 0, 20, 0, 0, 0, 0⟩ rfl
  have f9 := ins_at C _ _ hC 9 Ins.fin rfl
  rw [← hC]
  clear hC hl
  simp (config := { maxSteps := 1000000 }) [plays, Ins.fin, Pl.starts, Th.fresh, Th.on, Th.begun, isOp, Pl.byOrder, Pl.rounds, Pl.round, Pl.over, Pl.turn, Th.op, Th.does, Ins.fit, Th.place, reg, wordAt, setWord, Th.own, Ins.known, Th.told, mz.own, Cs.put, Cs.go, Th.finish, e0, hcl, g0, g3, h0', he', q1, hd, hlt, f0, f1, f2, f3, f4, f5, f8, f9]
set_option maxRecDepth 100000 in
set_option maxHeartbeats 4000000 in
theorem play_safe_yes (hl : ws.length = n + 1) (hn : n < 1000) (hq : q < 18446744073709551616) (h0 : ws[0]?.getD 0 = e) (he : 2 ≤ e) (he2 : e < 1000000) (hlt : ¬ e - 2 < q) :
    ∃ pl, plays 40 10 [ws] [] [[(safeCode q, [])]] = some pl ∧ pl.ws = [ws] ∧ pl.trace = [(0, 1, 0)] ∧ pl.ths.map (·.ans) = [[(true, [1])]] := by
  have e0 : W64 = 18446744073709551616 := W64_eq
  have g0 : 0 < ws.length := by omega
  have g3 : ws.length < 1000000 := by omega
  have h0' : ws[0] = e := by rw [List.getElem?_eq_getElem g0] at h0; exact h0
  have q1 : q < 18446744073709551616 := hq
  have hd : (e + 18446744073709551614) % 18446744073709551616 = e - 2 := by omega
  have he' : ¬ e < 2 := by omega
  obtain ⟨C, hC⟩ : ∃ C, C = [(safeCode q, ([] : List Nat))] := ⟨_, rfl⟩
  have hcl : C.length = 1 := by rw [hC]; rfl
  have f0 := ins_at C _ _ hC 0 ⟨1, 0, 17, 9, 0, 0, 0⟩ rfl
  have f1 := ins_at C _ _ hC 1 ⟨6, 0, 18, 0, 0, 0, 2⟩ rfl
  have f2 := ins_at C _ _ hC 2 ⟨20, 0, 17, 18, 0, 0, 8⟩ rfl
  have f3 := ins_at C _ _ hC 3 ⟨9, 0, 17, 17, 18, 0, 0⟩ rfl
  have f4 := ins_at C _ _ hC 4 ⟨6, 0, 19, 0, 0, 0, q⟩ rfl
  have f5 := ins_at C _ _ hC 5 ⟨20, 0, 17, 19, 0, 0, 8⟩ rfl
  have f6 := ins_at C _ _ hC 6 ⟨6, 0, 20, 0, 0, 0, 1⟩ rfl
  have f7 := ins_at C _ _ hC 7 ⟨18, 0, 0, 0, 0, 0, 8⟩ rfl
  have f8 := ins_at C _ _ hC 8 ⟨22, 0, 20, 0, 0, 0, 0⟩ rfl
  have f9 := ins_at C _ _ hC 9 Ins.fin rfl
  rw [← hC]
  clear hC hl
  simp (config := { maxSteps := 1000000 }) [plays, Ins.fin, Pl.starts, Th.fresh, Th.on, Th.begun, isOp, Pl.byOrder, Pl.rounds, Pl.round, Pl.over, Pl.turn, Th.op, Th.does, Ins.fit, Th.place, reg, wordAt, setWord, Th.own, Ins.known, Th.told, mz.own, Cs.put, Cs.go, Th.finish, e0, hcl, g0, g3, h0', he', q1, hd, hlt, f0, f1, f2, f3, f4, f5, f6, f7, f8, f9]
set_option maxRecDepth 100000 in
set_option maxHeartbeats 4000000 in
theorem play_fail1 (hl : ws.length = n + 1) (hn : n < 1000)  :
    ∃ pl, plays 40 10 [ws] [] [[(failsCode 1 5, [])]] = some pl ∧ pl.ws = [ws] ∧ pl.trace = [] ∧ pl.ths.map (·.ans) = [[(true, [0, 5])]] := by
  have e0 : W64 = 18446744073709551616 := W64_eq
  have g0 : 0 < ws.length := by omega
  have g3 : ws.length < 1000000 := by omega
  obtain ⟨C, hC⟩ : ∃ C, C = [(failsCode 1 5, ([] : List Nat))] := ⟨_, rfl⟩
  have hcl : C.length = 1 := by rw [hC]; rfl
  have f0 := ins_at C _ _ hC 0 ⟨6, 0, 20, 0, 0, 0, 5⟩ rfl
  have f1 := ins_at C _ _ hC 1 ⟨22, 0, 9, 0, 0, 0, 0⟩ rfl
  have f2 := ins_at C _ _ hC 2 ⟨22, 0, 20, 0, 0, 0, 0⟩ rfl
  have f3 := ins_at C _ _ hC 3 Ins.fin rfl
  rw [← hC]
  clear hC hl
  simp (config := { maxSteps := 1000000 }) [plays, Ins.fin, Pl.starts, Th.fresh, Th.on, Th.begun, isOp, Pl.byOrder, Pl.rounds, Pl.round, Pl.over, Pl.turn, Th.op, Th.does, Ins.fit, Th.place, reg, wordAt, setWord, Th.own, Ins.known, Th.told, mz.own, Cs.put, Cs.go, Th.finish, e0, hcl, g0, g3, f0, f1, f2, f3]
set_option maxRecDepth 100000 in
set_option maxHeartbeats 4000000 in
theorem play_fail0 (hl : ws.length = n + 1) (hn : n < 1000)  :
    ∃ pl, plays 40 10 [ws] [] [[(failsCode 0 5, [])]] = some pl ∧ pl.ws = [ws] ∧ pl.trace = [] ∧ pl.ths.map (·.ans) = [[(true, [5])]] := by
  have e0 : W64 = 18446744073709551616 := W64_eq
  have g0 : 0 < ws.length := by omega
  have g3 : ws.length < 1000000 := by omega
  obtain ⟨C, hC⟩ : ∃ C, C = [(failsCode 0 5, ([] : List Nat))] := ⟨_, rfl⟩
  have hcl : C.length = 1 := by rw [hC]; rfl
  have f0 := ins_at C _ _ hC 0 ⟨6, 0, 20, 0, 0, 0, 5⟩ rfl
  have f1 := ins_at C _ _ hC 1 ⟨22, 0, 20, 0, 0, 0, 0⟩ rfl
  have f2 := ins_at C _ _ hC 2 Ins.fin rfl
  rw [← hC]
  clear hC hl
  simp (config := { maxSteps := 1000000 }) [plays, Ins.fin, Pl.starts, Th.fresh, Th.on, Th.begun, isOp, Pl.byOrder, Pl.rounds, Pl.round, Pl.over, Pl.turn, Th.op, Th.does, Ins.fit, Th.place, reg, wordAt, setWord, Th.own, Ins.known, Th.told, mz.own, Cs.put, Cs.go, Th.finish, e0, hcl, g0, g3, f0, f1, f2]
end
end Go.Proofs.Ytebjmmckejbklaa.rf9
