/-
  patchbayref06: the codes of Put, Take and Len, and the plain machine at them, over whatever words.
-/
import Derived.Test.YtmkgjiejkfbdlaaMzQ
set_option linter.unusedSimpArgs false
set_option linter.unusedVariables false
namespace Go.Proofs.Ytmkgjiejkfbdlaa.rf6
open Go.Proofs.Ytmkgjiejkfbdlaa.mz
def putCode (n v : Nat) : List Ins := [⟨6, 0, 15, 0, 0, 0, v⟩, ⟨6, 0, 13, 0, 0, 0, n⟩, ⟨1, 0, 11, 9, 0, 0, 1⟩, ⟨1, 0, 10, 9, 0, 0, 0⟩, ⟨9, 0, 12, 11, 10, 0, 0⟩, ⟨20, 0, 12, 13, 0, 0, 8⟩, ⟨22, 0, 9, 0, 0, 0, 0⟩, ⟨23, 0, 0, 0, 0, 0, 0⟩,
  ⟨6, 0, 14, 0, 0, 0, n - 1⟩, ⟨12, 0, 14, 14, 11, 0, 0⟩, ⟨2, 0, 15, 14, 0, 0, 2⟩, ⟨8, 0, 11, 11, 9, 0, 1⟩, ⟨2, 0, 11, 9, 0, 0, 1⟩, ⟨6, 0, 16, 0, 0, 0, 1⟩, ⟨22, 0, 16, 0, 0, 0, 0⟩]
def takeCode (n : Nat) : List Ins := [⟨1, 0, 10, 9, 0, 0, 0⟩, ⟨1, 0, 11, 9, 0, 0, 1⟩, ⟨19, 0, 10, 11, 0, 0, 11⟩, ⟨6, 0, 14, 0, 0, 0, n - 1⟩, ⟨12, 0, 14, 14, 10, 0, 0⟩, ⟨1, 0, 15, 14, 0, 0, 2⟩, ⟨8, 0, 10, 10, 9, 0, 1⟩, ⟨2, 0, 10, 9, 0, 0, 0⟩,
  ⟨6, 0, 16, 0, 0, 0, 1⟩, ⟨22, 0, 15, 0, 0, 0, 0⟩, ⟨18, 0, 0, 0, 0, 0, 12⟩, ⟨22, 0, 9, 0, 0, 0, 0⟩, ⟨22, 0, 16, 0, 0, 0, 0⟩]
def lenCode (n : Nat) : List Ins := [⟨1, 0, 10, 9, 0, 0, 0⟩, ⟨1, 0, 11, 9, 0, 0, 1⟩, ⟨9, 0, 12, 11, 10, 0, 0⟩, ⟨6, 0, 13, 0, 0, 0, n⟩, ⟨20, 0, 12, 13, 0, 0, 6⟩, ⟨7, 0, 12, 13, 0, 0, 0⟩, ⟨22, 0, 12, 0, 0, 0, 0⟩]
theorem ins_at (C : List (List Ins × List Nat)) (c : List Ins) (d : List Nat) (hC : C = [(c, d)]) (k : Nat) (x : Ins) (h : c.getD k Ins.fin = x) (rs : List Nat) (ans : List (Bool × List Nat)) (ov : Bool) : Th.ins ⟨C, 0, k, rs, ans, ov⟩ = x := by
  subst hC; exact h
section
variable {n v t p dd s : Nat} {ws : List Nat}
set_option maxRecDepth 100000 in
set_option maxHeartbeats 4000000 in
theorem play_put_yes (hv : v < 18446744073709551616) (hn : n < 10000) (h0 : 0 < n) (hl : ws.length = n + 2) (ht : ws[0]?.getD 0 = t) (hp : ws[1]?.getD 0 = p) (hd : (p + (18446744073709551616 - t)) % 18446744073709551616 = dd) (hlt : dd < n) (hs : (n - 1) &&& p = s) :
    ∃ pl, plays 40 10 [ws] [] [[(putCode n v, [])]] = some pl ∧ pl.ws = [(ws.set (s + 2) v).set 1 ((p + 1) % 18446744073709551616)] ∧ pl.trace = [(0, 1, 1), (0, 1, 0), (0, 2, s + 2), (0, 2, 1)] ∧ pl.ths.map (·.ans) = [[(true, [1])]] := by
  have e0 : W64 = 18446744073709551616 := W64_eq
  have hsn : s < n := by have : s ≤ n - 1 := by rw [← hs]; exact Nat.and_le_left
                         omega
  have hs2 : (s + 2) % 18446744073709551616 = s + 2 := Nat.mod_eq_of_lt (by omega)
  have g0 : 0 < ws.length := by omega
  have g1 : 1 < ws.length := by omega
  have g2 : s + 2 < ws.length := by omega
  have g3 : ws.length < 1000000 := by omega
  have n1 : n < 18446744073709551616 := by omega
  have n2 : n - 1 < 18446744073709551616 := by omega
  have ht' : ws[0] = t := by rw [List.getElem?_eq_getElem g0] at ht; exact ht
  have hp' : ws[1] = p := by rw [List.getElem?_eq_getElem g1] at hp; exact hp
  obtain ⟨C, hC⟩ : ∃ C, C = [(putCode n v, ([] : List Nat))] := ⟨_, rfl⟩
  have hcl : C.length = 1 := by rw [hC]; rfl
  have f0 := ins_at C _ _ hC 0 _ rfl
  have f1 := ins_at C _ _ hC 1 _ rfl
  have f2 := ins_at C _ _ hC 2 _ rfl
  have f3 := ins_at C _ _ hC 3 _ rfl
  have f4 := ins_at C _ _ hC 4 _ rfl
  have f5 := ins_at C _ _ hC 5 _ rfl
  have f8 := ins_at C _ _ hC 8 _ rfl
  have f9 := ins_at C _ _ hC 9 _ rfl
  have f10 := ins_at C _ _ hC 10 _ rfl
  have f11 := ins_at C _ _ hC 11 _ rfl
  have f12 := ins_at C _ _ hC 12 _ rfl
  have f13 := ins_at C _ _ hC 13 _ rfl
  have f14 := ins_at C _ _ hC 14 _ rfl
  have f15 := ins_at C _ _ hC 15 _ rfl
  rw [← hC]
  clear hC hl hsn
  simp (config := { maxSteps := 1000000 }) [plays, putCode, takeCode, lenCode, Ins.fin, Pl.starts, Th.fresh, Th.on, Th.begun, isOp, Pl.byOrder, Pl.rounds, Pl.round, Pl.over, Pl.turn, Th.op, Th.does, Ins.fit, Th.place, reg, wordAt, setWord, Th.own, Ins.known, Th.told, mz.own, Cs.put, Cs.go, Th.finish, e0, hv, n1, n2, hcl, ht', hp', hd, hlt, hs, hs2, g0, g1, g2, g3, f0, f1, f2, f3, f4, f5, f8, f9, f10, f11, f12, f13, f14, f15]
set_option maxRecDepth 100000 in
set_option maxHeartbeats 4000000 in
theorem play_put_no (hv : v < 18446744073709551616) (hn : n < 10000) (h0 : 0 < n) (hl : ws.length = n + 2) (ht : ws[0]?.getD 0 = t) (hp : ws[1]?.getD 0 = p) (hd : (p + (18446744073709551616 - t)) % 18446744073709551616 = dd) (hlt : ¬ dd < n) :
    ∃ pl, plays 40 10 [ws] [] [[(putCode n v, [])]] = some pl ∧ pl.ws = [ws] ∧ pl.trace = [(0, 1, 1), (0, 1, 0)] ∧ pl.ths.map (·.ans) = [[(true, [0])]] := by
  have e0 : W64 = 18446744073709551616 := W64_eq
  have g0 : 0 < ws.length := by omega
  have g1 : 1 < ws.length := by omega
  have g3 : ws.length < 1000000 := by omega
  have n1 : n < 18446744073709551616 := by omega
  have ht' : ws[0] = t := by rw [List.getElem?_eq_getElem g0] at ht; exact ht
  have hp' : ws[1] = p := by rw [List.getElem?_eq_getElem g1] at hp; exact hp
  obtain ⟨C, hC⟩ : ∃ C, C = [(putCode n v, ([] : List Nat))] := ⟨_, rfl⟩
  have hcl : C.length = 1 := by rw [hC]; rfl
  have f0 := ins_at C _ _ hC 0 _ rfl
  have f1 := ins_at C _ _ hC 1 _ rfl
  have f2 := ins_at C _ _ hC 2 _ rfl
  have f3 := ins_at C _ _ hC 3 _ rfl
  have f4 := ins_at C _ _ hC 4 _ rfl
  have f5 := ins_at C _ _ hC 5 _ rfl
  have f6 := ins_at C _ _ hC 6 _ rfl
  have f7 := ins_at C _ _ hC 7 _ rfl
  rw [← hC]
  clear hC hl
  simp (config := { maxSteps := 1000000 }) [plays, putCode, takeCode, lenCode, Ins.fin, Pl.starts, Th.fresh, Th.on, Th.begun, isOp, Pl.byOrder, Pl.rounds, Pl.round, Pl.over, Pl.turn, Th.op, Th.does, Ins.fit, Th.place, reg, wordAt, setWord, Th.own, Ins.known, Th.told, mz.own, Cs.put, Cs.go, Th.finish, e0, hv, n1, hcl, ht', hp', hd, hlt, g0, g1, g3, f0, f1, f2, f3, f4, f5, f6, f7]
set_option maxRecDepth 100000 in
set_option maxHeartbeats 4000000 in
theorem play_take_yes (hn : n < 10000) (h0 : 0 < n) (hl : ws.length = n + 2) (ht : ws[0]?.getD 0 = t) (hp : ws[1]?.getD 0 = p) (hlt : ¬ t = p) (hs : (n - 1) &&& t = s) (hv : ws[s + 2]?.getD 0 = v) :
    ∃ pl, plays 40 10 [ws] [] [[(takeCode n, [])]] = some pl ∧ pl.ws = [ws.set 0 ((t + 1) % 18446744073709551616)] ∧ pl.trace = [(0, 1, 0), (0, 1, 1), (0, 1, s + 2), (0, 2, 0)] ∧ pl.ths.map (·.ans) = [[(true, [v, 1])]] := by
  have e0 : W64 = 18446744073709551616 := W64_eq
  have hsn : s < n := by have : s ≤ n - 1 := by rw [← hs]; exact Nat.and_le_left
                         omega
  have hs2 : (s + 2) % 18446744073709551616 = s + 2 := Nat.mod_eq_of_lt (by omega)
  have g0 : 0 < ws.length := by omega
  have g1 : 1 < ws.length := by omega
  have g2 : s + 2 < ws.length := by omega
  have g3 : ws.length < 1000000 := by omega
  have n2 : n - 1 < 18446744073709551616 := by omega
  have ht' : ws[0] = t := by rw [List.getElem?_eq_getElem g0] at ht; exact ht
  have hp' : ws[1] = p := by rw [List.getElem?_eq_getElem g1] at hp; exact hp
  have hv' : ws[s + 2] = v := by rw [List.getElem?_eq_getElem g2] at hv; exact hv
  obtain ⟨C, hC⟩ : ∃ C, C = [(takeCode n, ([] : List Nat))] := ⟨_, rfl⟩
  have hcl : C.length = 1 := by rw [hC]; rfl
  have f0 := ins_at C _ _ hC 0 _ rfl
  have f1 := ins_at C _ _ hC 1 _ rfl
  have f2 := ins_at C _ _ hC 2 _ rfl
  have f3 := ins_at C _ _ hC 3 _ rfl
  have f4 := ins_at C _ _ hC 4 _ rfl
  have f5 := ins_at C _ _ hC 5 _ rfl
  have f6 := ins_at C _ _ hC 6 _ rfl
  have f7 := ins_at C _ _ hC 7 _ rfl
  have f8 := ins_at C _ _ hC 8 _ rfl
  have f9 := ins_at C _ _ hC 9 _ rfl
  have f10 := ins_at C _ _ hC 10 _ rfl
  have f11 := ins_at C _ _ hC 11 _ rfl
  have f12 := ins_at C _ _ hC 12 _ rfl
  have f13 := ins_at C _ _ hC 13 _ rfl
  rw [← hC]
  clear hC hl hsn
  simp (config := { maxSteps := 1000000 }) [plays, putCode, takeCode, lenCode, Ins.fin, Pl.starts, Th.fresh, Th.on, Th.begun, isOp, Pl.byOrder, Pl.rounds, Pl.round, Pl.over, Pl.turn, Th.op, Th.does, Ins.fit, Th.place, reg, wordAt, setWord, Th.own, Ins.known, Th.told, mz.own, Cs.put, Cs.go, Th.finish, e0, hv', n2, hcl, ht', hp', hlt, hs, hs2, g0, g1, g2, g3, f0, f1, f2, f3, f4, f5, f6, f7, f8, f9, f10, f11, f12, f13]
set_option maxRecDepth 100000 in
set_option maxHeartbeats 4000000 in
theorem play_take_no (hn : n < 10000) (h0 : 0 < n) (hl : ws.length = n + 2) (ht : ws[0]?.getD 0 = t) (hp : ws[1]?.getD 0 = t) :
    ∃ pl, plays 40 10 [ws] [] [[(takeCode n, [])]] = some pl ∧ pl.ws = [ws] ∧ pl.trace = [(0, 1, 0), (0, 1, 1)] ∧ pl.ths.map (·.ans) = [[(true, [0, 0])]] := by
  have e0 : W64 = 18446744073709551616 := W64_eq
  have g0 : 0 < ws.length := by omega
  have g1 : 1 < ws.length := by omega
  have g3 : ws.length < 1000000 := by omega
  have ht' : ws[0] = t := by rw [List.getElem?_eq_getElem g0] at ht; exact ht
  have hp' : ws[1] = t := by rw [List.getElem?_eq_getElem g1] at hp; exact hp
  obtain ⟨C, hC⟩ : ∃ C, C = [(takeCode n, ([] : List Nat))] := ⟨_, rfl⟩
  have hcl : C.length = 1 := by rw [hC]; rfl
  have f0 := ins_at C _ _ hC 0 _ rfl
  have f1 := ins_at C _ _ hC 1 _ rfl
  have f2 := ins_at C _ _ hC 2 _ rfl
  have f11 := ins_at C _ _ hC 11 _ rfl
  have f12 := ins_at C _ _ hC 12 _ rfl
  have f13 := ins_at C _ _ hC 13 _ rfl
  rw [← hC]
  clear hC hl
  simp (config := { maxSteps := 1000000 }) [plays, putCode, takeCode, lenCode, Ins.fin, Pl.starts, Th.fresh, Th.on, Th.begun, isOp, Pl.byOrder, Pl.rounds, Pl.round, Pl.over, Pl.turn, Th.op, Th.does, Ins.fit, Th.place, reg, wordAt, setWord, Th.own, Ins.known, Th.told, mz.own, Cs.put, Cs.go, Th.finish, e0, hcl, ht', hp', g0, g1, g3, f0, f1, f2, f11, f12, f13]
set_option maxRecDepth 100000 in
set_option maxHeartbeats 4000000 in
theorem play_len (hn : n < 10000) (h0 : 0 < n) (hl : ws.length = n + 2) (ht : ws[0]?.getD 0 = t) (hp : ws[1]?.getD 0 = p) (hd : (p + (18446744073709551616 - t)) % 18446744073709551616 = dd) :
    ∃ pl, plays 40 10 [ws] [] [[(lenCode n, [])]] = some pl ∧ pl.ws = [ws] ∧ pl.trace = [(0, 1, 0), (0, 1, 1)] ∧ pl.ths.map (·.ans) = [[(true, [min dd n])]] := by
  have e0 : W64 = 18446744073709551616 := W64_eq
  have g0 : 0 < ws.length := by omega
  have g1 : 1 < ws.length := by omega
  have g3 : ws.length < 1000000 := by omega
  have n1 : n < 18446744073709551616 := by omega
  have ht' : ws[0] = t := by rw [List.getElem?_eq_getElem g0] at ht; exact ht
  have hp' : ws[1] = p := by rw [List.getElem?_eq_getElem g1] at hp; exact hp
  obtain ⟨C, hC⟩ : ∃ C, C = [(lenCode n, ([] : List Nat))] := ⟨_, rfl⟩
  have hcl : C.length = 1 := by rw [hC]; rfl
  have f0 := ins_at C _ _ hC 0 _ rfl
  have f1 := ins_at C _ _ hC 1 _ rfl
  have f2 := ins_at C _ _ hC 2 _ rfl
  have f3 := ins_at C _ _ hC 3 _ rfl
  have f4 := ins_at C _ _ hC 4 _ rfl
  have f5 := ins_at C _ _ hC 5 _ rfl
  have f6 := ins_at C _ _ hC 6 _ rfl
  have f7 := ins_at C _ _ hC 7 _ rfl
  rw [← hC]
  clear hC hl
  by_cases hlt : dd < n
  · have hm : min dd n = dd := by omega
    simp (config := { maxSteps := 1000000 }) [plays, putCode, takeCode, lenCode, Ins.fin, Pl.starts, Th.fresh, Th.on, Th.begun, isOp, Pl.byOrder, Pl.rounds, Pl.round, Pl.over, Pl.turn, Th.op, Th.does, Ins.fit, Th.place, reg, wordAt, setWord, Th.own, Ins.known, Th.told, mz.own, Cs.put, Cs.go, Th.finish, e0, n1, hcl, ht', hp', hd, hlt, hm, g0, g1, g3, f0, f1, f2, f3, f4, f6, f7]
  · have hm : min dd n = n := by omega
    simp (config := { maxSteps := 1000000 }) [plays, putCode, takeCode, lenCode, Ins.fin, Pl.starts, Th.fresh, Th.on, Th.begun, isOp, Pl.byOrder, Pl.rounds, Pl.round, Pl.over, Pl.turn, Th.op, Th.does, Ins.fit, Th.place, reg, wordAt, setWord, Th.own, Ins.known, Th.told, mz.own, Cs.put, Cs.go, Th.finish, e0, n1, hcl, ht', hp', hd, hlt, hm, g0, g1, g3, f0, f1, f2, f3, f4, f5, f6, f7]
end
end Go.Proofs.Ytmkgjiejkfbdlaa.rf6
