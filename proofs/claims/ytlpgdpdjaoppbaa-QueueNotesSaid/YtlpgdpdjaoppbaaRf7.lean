/-
  patchbayref07: the codes of Put, Take and Drain, and the plain machine at them, over whatever words.
-/
import Derived.Test.YtlpgdpdjaoppbaaMzQ
set_option linter.unusedSimpArgs false
set_option linter.unusedVariables false
namespace Go.Proofs.Ytlpgdpdjaoppbaa.rf7
open Go.Proofs.Ytlpgdpdjaoppbaa.mz
def putAt (n w : Nat) : List Ins := [⟨1, 0, 10, 9, 0, 0, 0⟩, ⟨6, 0, 11, 0, 0, 0, n - 1⟩, ⟨12, 0, 12, 10, 11, 0, 0⟩, ⟨14, 0, 12, 12, 0, 0, 1⟩, ⟨1, 0, 13, 12, 0, 0, 2⟩, ⟨9, 0, 13, 13, 10, 0, 0⟩, ⟨21, 0, 13, 0, 0, 0, w + 16⟩, ⟨19, 0, 13, 9, 0, 0, w + 9⟩, ⟨18, 0, 0, 0, 0, 0, w⟩, ⟨8, 0, 14, 10, 9, 0, 1⟩, ⟨5, 0, 15, 9, 10, 14, 0⟩, ⟨19, 0, 15, 9, 0, 0, w⟩, ⟨2, 0, 0, 12, 0, 0, 3⟩, ⟨2, 0, 14, 12, 0, 0, 2⟩, ⟨6, 0, 1, 0, 0, 0, 1⟩, ⟨18, 0, 0, 0, 0, 0, w + 17⟩, ⟨6, 0, 1, 0, 0, 0, 0⟩]
def takeAt (n w : Nat) : List Ins := [⟨1, 0, 10, 9, 0, 0, 1⟩, ⟨6, 0, 11, 0, 0, 0, n - 1⟩, ⟨12, 0, 12, 10, 11, 0, 0⟩, ⟨14, 0, 12, 12, 0, 0, 1⟩, ⟨8, 0, 14, 10, 9, 0, 1⟩, ⟨1, 0, 13, 12, 0, 0, 2⟩, ⟨9, 0, 13, 13, 14, 0, 0⟩, ⟨21, 0, 13, 0, 0, 0, w + 17⟩, ⟨19, 0, 13, 9, 0, 0, w + 10⟩, ⟨18, 0, 0, 0, 0, 0, w⟩, ⟨5, 0, 15, 9, 10, 14, 1⟩, ⟨19, 0, 15, 9, 0, 0, w⟩, ⟨1, 0, 0, 12, 0, 0, 3⟩, ⟨8, 0, 14, 10, 9, 0, n⟩, ⟨2, 0, 14, 12, 0, 0, 2⟩, ⟨6, 0, 1, 0, 0, 0, 1⟩, ⟨18, 0, 0, 0, 0, 0, w + 19⟩, ⟨6, 0, 1, 0, 0, 0, 0⟩, ⟨6, 0, 0, 0, 0, 0, 0⟩]
def putCode (n v : Nat) : List Ins := [⟨6, 0, 0, 0, 0, 0, v⟩, ⟨1, 0, 10, 9, 0, 0, 0⟩, ⟨6, 0, 11, 0, 0, 0, n - 1⟩, ⟨12, 0, 12, 10, 11, 0, 0⟩, ⟨14, 0, 12, 12, 0, 0, 1⟩, ⟨1, 0, 13, 12, 0, 0, 2⟩, ⟨9, 0, 13, 13, 10, 0, 0⟩, ⟨21, 0, 13, 0, 0, 0, 17⟩, ⟨19, 0, 13, 9, 0, 0, 10⟩, ⟨18, 0, 0, 0, 0, 0, 1⟩, ⟨8, 0, 14, 10, 9, 0, 1⟩, ⟨5, 0, 15, 9, 10, 14, 0⟩, ⟨19, 0, 15, 9, 0, 0, 1⟩, ⟨2, 0, 0, 12, 0, 0, 3⟩, ⟨2, 0, 14, 12, 0, 0, 2⟩, ⟨6, 0, 1, 0, 0, 0, 1⟩, ⟨18, 0, 0, 0, 0, 0, 18⟩, ⟨6, 0, 1, 0, 0, 0, 0⟩, ⟨22, 0, 1, 0, 0, 0, 0⟩]
def takeCode (n : Nat) : List Ins := [⟨1, 0, 10, 9, 0, 0, 1⟩, ⟨6, 0, 11, 0, 0, 0, n - 1⟩, ⟨12, 0, 12, 10, 11, 0, 0⟩, ⟨14, 0, 12, 12, 0, 0, 1⟩, ⟨8, 0, 14, 10, 9, 0, 1⟩, ⟨1, 0, 13, 12, 0, 0, 2⟩, ⟨9, 0, 13, 13, 14, 0, 0⟩, ⟨21, 0, 13, 0, 0, 0, 17⟩, ⟨19, 0, 13, 9, 0, 0, 10⟩, ⟨18, 0, 0, 0, 0, 0, 0⟩, ⟨5, 0, 15, 9, 10, 14, 1⟩, ⟨19, 0, 15, 9, 0, 0, 0⟩, ⟨1, 0, 0, 12, 0, 0, 3⟩, ⟨8, 0, 14, 10, 9, 0, n⟩, ⟨2, 0, 14, 12, 0, 0, 2⟩, ⟨6, 0, 1, 0, 0, 0, 1⟩, ⟨18, 0, 0, 0, 0, 0, 19⟩, ⟨6, 0, 1, 0, 0, 0, 0⟩, ⟨6, 0, 0, 0, 0, 0, 0⟩, ⟨22, 0, 0, 0, 0, 0, 0⟩, ⟨22, 0, 1, 0, 0, 0, 0⟩]
def drainCode (n : Nat) : List Ins := [⟨6, 0, 3, 0, 0, 0, n⟩, ⟨1, 0, 10, 9, 0, 0, 1⟩, ⟨6, 0, 11, 0, 0, 0, n - 1⟩, ⟨12, 0, 12, 10, 11, 0, 0⟩, ⟨14, 0, 12, 12, 0, 0, 1⟩, ⟨8, 0, 14, 10, 9, 0, 1⟩, ⟨1, 0, 13, 12, 0, 0, 2⟩, ⟨9, 0, 13, 13, 14, 0, 0⟩, ⟨21, 0, 13, 0, 0, 0, 18⟩, ⟨19, 0, 13, 9, 0, 0, 11⟩, ⟨18, 0, 0, 0, 0, 0, 1⟩, ⟨5, 0, 15, 9, 10, 14, 1⟩, ⟨19, 0, 15, 9, 0, 0, 1⟩, ⟨1, 0, 0, 12, 0, 0, 3⟩, ⟨8, 0, 14, 10, 9, 0, n⟩, ⟨2, 0, 14, 12, 0, 0, 2⟩, ⟨6, 0, 1, 0, 0, 0, 1⟩, ⟨18, 0, 0, 0, 0, 0, 20⟩, ⟨6, 0, 1, 0, 0, 0, 0⟩, ⟨6, 0, 0, 0, 0, 0, 0⟩, ⟨19, 0, 1, 9, 0, 0, 25⟩, ⟨22, 0, 0, 0, 0, 0, 0⟩, ⟨6, 0, 4, 0, 0, 0, 1⟩, ⟨9, 0, 3, 3, 4, 0, 0⟩, ⟨20, 0, 9, 3, 0, 0, 1⟩]
theorem put_eq (n v : Nat) : putCode n v = ⟨6, 0, 0, 0, 0, 0, v⟩ :: (putAt n 1 ++ [⟨22, 0, 1, 0, 0, 0, 0⟩]) := rfl
theorem take_eq (n : Nat) : takeCode n = takeAt n 0 ++ [⟨22, 0, 0, 0, 0, 0, 0⟩, ⟨22, 0, 1, 0, 0, 0, 0⟩] := rfl
theorem drain_eq (n : Nat) : drainCode n = ⟨6, 0, 3, 0, 0, 0, n⟩ :: (takeAt n 1 ++ [⟨19, 0, 1, 9, 0, 0, 25⟩, ⟨22, 0, 0, 0, 0, 0, 0⟩, ⟨6, 0, 4, 0, 0, 0, 1⟩, ⟨9, 0, 3, 3, 4, 0, 0⟩, ⟨20, 0, 9, 3, 0, 0, 1⟩]) := rfl
theorem ins_at (C : List (List Ins × List Nat)) (c : List Ins) (d : List Nat) (hC : C = [(c, d)]) (k : Nat) (x : Ins) (h : c.getD k Ins.fin = x) (rs : List Nat) (ans : List (Bool × List Nat)) (ov : Bool) : Th.ins ⟨C, 0, k, rs, ans, ov⟩ = x := by
  subst hC; exact h
theorem rounds_step {n f : Nat} {t t' : Th} {ws ws' : List (List Nat)} {tr : List (Nat × Nat × Nat)} {m : Nat × Nat} (ho : t.over = false) (hc : t.call < t.calls.length) (htr : tr.length < 16384) (h : t.op n ws = some (t', ws', m)) :
    Pl.rounds n (f + 1) ⟨[t], ws, tr⟩ = Pl.rounds n f ⟨[t'], ws', tr ++ [(0, m.1, m.2)]⟩ := by
  simp [Pl.rounds, Pl.round, Pl.over, Pl.turn, ho, hc, h, Nat.not_le.2 htr]
theorem rounds_over {n f : Nat} {t : Th} {ws : List (List Nat)} {tr : List (Nat × Nat × Nat)} (ho : t.over = true) (htr : tr.length < 16384) : Pl.rounds n (f + 1) ⟨[t], ws, tr⟩ = some ⟨[t], ws, tr⟩ := by
  simp [Pl.rounds, Pl.round, Pl.over, ho, Nat.not_le.2 htr]
theorem plays_of {n f : Nat} {ws : List (List Nat)} {c : List Ins} {t : Th} (h : (Th.fresh [(c, [])]).on n = some t) : plays n f ws [] [[(c, [])]] = Pl.rounds n f ⟨[t], ws, []⟩ := by
  simp [plays, Pl.starts, Pl.byOrder, h]
/-- a thread in its one call: where it stands, its registers, what it has told -/
def TT (C : List (List Ins × List Nat)) (a r0 r1 r3 r4 p m z q y i : Nat) (ts : List Nat) : Th := ⟨C, 0, a, [r0, r1, 0, r3, r4, 0, 0, 0, 0, 0, p, m, z, q, y, i, 0, 0, 0, 0, 0, 0, 0, 0], [(false, ts)], false⟩
/-- the call is over -/
def TD (C : List (List Ins × List Nat)) (ts : List Nat) : Th := ⟨C, 1, 0, List.replicate 24 0, [(true, ts)], true⟩
theorem fits {n : Nat} (h : n < 10000) : n < W64 ∧ n - 1 < W64 ∧ ∀ k, k < 40 → k < W64 := by
  have := W64_eq
  exact ⟨by omega, by omega, fun k hk => by omega⟩
section
variable {n v t u s x k r0 r1 r3 r4 p m z q y i f : Nat} {ws ts : List Nat} {C : List (List Ins × List Nat)} {tr : List (Nat × Nat × Nat)}
set_option maxRecDepth 100000 in
set_option maxHeartbeats 1000000 in
theorem put_1 (hC : C = [(putCode n v, [])]) (hn : n < 10000) (hl : ws.length < 1000000) (hb : 0 < ws.length) (h : ws[0]?.getD 0 = t) (hz : (t &&& (n - 1)) * 2 ^ 1 % W64 = z) :
    (TT C 1 v 0 0 0 0 0 0 0 0 0 []).op 40 [ws] = some (TT C 5 v 0 0 0 t (n - 1) z 0 0 0 [], [ws], (1, 0)) := by
  have hcl : C.length = 1 := by rw [hC]; rfl
  have f1 := ins_at C _ _ hC 1 ⟨1, 0, 10, 9, 0, 0, 0⟩ rfl
  have f2 := ins_at C _ _ hC 2 ⟨6, 0, 11, 0, 0, 0, n - 1⟩ rfl
  have f3 := ins_at C _ _ hC 3 ⟨12, 0, 12, 10, 11, 0, 0⟩ rfl
  have f4 := ins_at C _ _ hC 4 ⟨14, 0, 12, 12, 0, 0, 1⟩ rfl
  have f5 := ins_at C _ _ hC 5 ⟨1, 0, 13, 12, 0, 0, 2⟩ rfl
  obtain ⟨c, d, b⟩ := fits hn
  have b0 := b 0 (by omega)
  have b1 := b 1 (by omega)
  have b2 := b 2 (by omega)
  have b3 := b 3 (by omega)
  have b8 := b 8 (by omega)
  have b10 := b 10 (by omega)
  have b11 := b 11 (by omega)
  have b17 := b 17 (by omega)
  have b18 := b 18 (by omega)
  have b19 := b 19 (by omega)
  have b20 := b 20 (by omega)
  have b25 := b 25 (by omega)
  have m1 : 1 % W64 = 1 := Nat.mod_eq_of_lt b1
  have h' : ws[0] = t := by rw [List.getElem?_eq_getElem (by omega)] at h; exact h
  clear hC b hn
  simp (config := { maxSteps := 200000 }) [-Nat.reducePow, TT, TD, Ins.fin, Th.on, Th.begun, isOp, Th.op, Th.does, Ins.fit, Th.place, reg, wordAt, setWord, Th.own, Ins.known, Th.told, mz.own, Cs.put, Cs.go, Th.finish, hcl, hl, c, d, m1, hb, h', hz, b0, b1, b2, b3, b8, b10, b11, b17, b18, b19, b20, b25, f1, f2, f3, f4, f5]
set_option maxRecDepth 100000 in
set_option maxHeartbeats 1000000 in
theorem put_5 (hC : C = [(putCode n v, [])]) (hn : n < 10000) (hl : ws.length < 1000000) (hb : z + 2 < ws.length) (h : ws[z + 2]?.getD 0 = t) (hz2 : (z + 2) % W64 = z + 2) (ht1 : (t + 1) % W64 = t + 1) (hd : (t + (W64 - t)) % W64 = 0) :
    (TT C 5 v 0 0 0 t m z q 0 0 []).op 40 [ws] = some (TT C 11 v 0 0 0 t m z 0 (t + 1) 0 [], [ws], (1, z + 2)) := by
  have hcl : C.length = 1 := by rw [hC]; rfl
  have f5 := ins_at C _ _ hC 5 ⟨1, 0, 13, 12, 0, 0, 2⟩ rfl
  have f6 := ins_at C _ _ hC 6 ⟨9, 0, 13, 13, 10, 0, 0⟩ rfl
  have f7 := ins_at C _ _ hC 7 ⟨21, 0, 13, 0, 0, 0, 17⟩ rfl
  have f8 := ins_at C _ _ hC 8 ⟨19, 0, 13, 9, 0, 0, 10⟩ rfl
  have f10 := ins_at C _ _ hC 10 ⟨8, 0, 14, 10, 9, 0, 1⟩ rfl
  have f11 := ins_at C _ _ hC 11 ⟨5, 0, 15, 9, 10, 14, 0⟩ rfl
  obtain ⟨c, d, b⟩ := fits hn
  have b0 := b 0 (by omega)
  have b1 := b 1 (by omega)
  have b2 := b 2 (by omega)
  have b3 := b 3 (by omega)
  have b8 := b 8 (by omega)
  have b10 := b 10 (by omega)
  have b11 := b 11 (by omega)
  have b17 := b 17 (by omega)
  have b18 := b 18 (by omega)
  have b19 := b 19 (by omega)
  have b20 := b 20 (by omega)
  have b25 := b 25 (by omega)
  have m1 : 1 % W64 = 1 := Nat.mod_eq_of_lt b1
  have h' : ws[z + 2] = t := by rw [List.getElem?_eq_getElem (by omega)] at h; exact h
  clear hC b hn
  simp (config := { maxSteps := 200000 }) [-Nat.reducePow, TT, TD, Ins.fin, Th.on, Th.begun, isOp, Th.op, Th.does, Ins.fit, Th.place, reg, wordAt, setWord, Th.own, Ins.known, Th.told, mz.own, Cs.put, Cs.go, Th.finish, hcl, hl, c, d, m1, hb, h', hz2, ht1, hd, b0, b1, b2, b3, b8, b10, b11, b17, b18, b19, b20, b25, f5, f6, f7, f8, f10, f11]
set_option maxRecDepth 100000 in
set_option maxHeartbeats 1000000 in
theorem put_5no (hC : C = [(putCode n v, [])]) (hn : n < 10000) (hl : ws.length < 1000000) (hb : z + 2 < ws.length) (h : ws[z + 2]?.getD 0 = u) (hz2 : (z + 2) % W64 = z + 2) (hd : (u + (W64 - t)) % W64 = y) (hy : y / 9223372036854775808 = 1) :
    (TT C 5 v 0 0 0 t m z q 0 0 []).op 40 [ws] = some (TD C [0], [ws], (1, z + 2)) := by
  have hcl : C.length = 1 := by rw [hC]; rfl
  have f5 := ins_at C _ _ hC 5 ⟨1, 0, 13, 12, 0, 0, 2⟩ rfl
  have f6 := ins_at C _ _ hC 6 ⟨9, 0, 13, 13, 10, 0, 0⟩ rfl
  have f7 := ins_at C _ _ hC 7 ⟨21, 0, 13, 0, 0, 0, 17⟩ rfl
  have f17 := ins_at C _ _ hC 17 ⟨6, 0, 1, 0, 0, 0, 0⟩ rfl
  have f18 := ins_at C _ _ hC 18 ⟨22, 0, 1, 0, 0, 0, 0⟩ rfl
  have f19 := ins_at C _ _ hC 19 Ins.fin rfl
  obtain ⟨c, d, b⟩ := fits hn
  have b0 := b 0 (by omega)
  have b1 := b 1 (by omega)
  have b2 := b 2 (by omega)
  have b3 := b 3 (by omega)
  have b8 := b 8 (by omega)
  have b10 := b 10 (by omega)
  have b11 := b 11 (by omega)
  have b17 := b 17 (by omega)
  have b18 := b 18 (by omega)
  have b19 := b 19 (by omega)
  have b20 := b 20 (by omega)
  have b25 := b 25 (by omega)
  have m1 : 1 % W64 = 1 := Nat.mod_eq_of_lt b1
  have h' : ws[z + 2] = u := by rw [List.getElem?_eq_getElem (by omega)] at h; exact h
  clear hC b hn
  simp (config := { maxSteps := 200000 }) [-Nat.reducePow, TT, TD, Ins.fin, Th.on, Th.begun, isOp, Th.op, Th.does, Ins.fit, Th.place, reg, wordAt, setWord, Th.own, Ins.known, Th.told, mz.own, Cs.put, Cs.go, Th.finish, hcl, hl, c, d, m1, hb, h', hz2, hd, hy, b0, b1, b2, b3, b8, b10, b11, b17, b18, b19, b20, b25, f5, f6, f7, f17, f18, f19]
set_option maxRecDepth 100000 in
set_option maxHeartbeats 1000000 in
theorem put_11 (hC : C = [(putCode n v, [])]) (hn : n < 10000) (hl : ws.length < 1000000) (hb : 0 < ws.length) (h : ws[0]?.getD 0 = t) :
    (TT C 11 v 0 0 0 t m z 0 (t + 1) 0 []).op 40 [ws] = some (TT C 13 v 0 0 0 t m z 0 (t + 1) 1 [], [ws.set 0 (t + 1)], (5, 0)) := by
  have hcl : C.length = 1 := by rw [hC]; rfl
  have f11 := ins_at C _ _ hC 11 ⟨5, 0, 15, 9, 10, 14, 0⟩ rfl
  have f12 := ins_at C _ _ hC 12 ⟨19, 0, 15, 9, 0, 0, 1⟩ rfl
  have f13 := ins_at C _ _ hC 13 ⟨2, 0, 0, 12, 0, 0, 3⟩ rfl
  obtain ⟨c, d, b⟩ := fits hn
  have b0 := b 0 (by omega)
  have b1 := b 1 (by omega)
  have b2 := b 2 (by omega)
  have b3 := b 3 (by omega)
  have b8 := b 8 (by omega)
  have b10 := b 10 (by omega)
  have b11 := b 11 (by omega)
  have b17 := b 17 (by omega)
  have b18 := b 18 (by omega)
  have b19 := b 19 (by omega)
  have b20 := b 20 (by omega)
  have b25 := b 25 (by omega)
  have m1 : 1 % W64 = 1 := Nat.mod_eq_of_lt b1
  have h' : ws[0] = t := by rw [List.getElem?_eq_getElem (by omega)] at h; exact h
  clear hC b hn
  simp (config := { maxSteps := 200000 }) [-Nat.reducePow, TT, TD, Ins.fin, Th.on, Th.begun, isOp, Th.op, Th.does, Ins.fit, Th.place, reg, wordAt, setWord, Th.own, Ins.known, Th.told, mz.own, Cs.put, Cs.go, Th.finish, hcl, hl, c, d, m1, hb, h', b0, b1, b2, b3, b8, b10, b11, b17, b18, b19, b20, b25, f11, f12, f13]
set_option maxRecDepth 100000 in
set_option maxHeartbeats 1000000 in
theorem put_13 (hC : C = [(putCode n v, [])]) (hn : n < 10000) (hl : ws.length < 1000000) (hb : z + 3 < ws.length) (hz3 : (z + 3) % W64 = z + 3) :
    (TT C 13 v 0 0 0 t m z 0 (t + 1) 1 []).op 40 [ws] = some (TT C 14 v 0 0 0 t m z 0 (t + 1) 1 [], [ws.set (z + 3) v], (2, z + 3)) := by
  have hcl : C.length = 1 := by rw [hC]; rfl
  have f13 := ins_at C _ _ hC 13 ⟨2, 0, 0, 12, 0, 0, 3⟩ rfl
  have f14 := ins_at C _ _ hC 14 ⟨2, 0, 14, 12, 0, 0, 2⟩ rfl
  obtain ⟨c, d, b⟩ := fits hn
  have b0 := b 0 (by omega)
  have b1 := b 1 (by omega)
  have b2 := b 2 (by omega)
  have b3 := b 3 (by omega)
  have b8 := b 8 (by omega)
  have b10 := b 10 (by omega)
  have b11 := b 11 (by omega)
  have b17 := b 17 (by omega)
  have b18 := b 18 (by omega)
  have b19 := b 19 (by omega)
  have b20 := b 20 (by omega)
  have b25 := b 25 (by omega)
  have m1 : 1 % W64 = 1 := Nat.mod_eq_of_lt b1
  clear hC b hn
  simp (config := { maxSteps := 200000 }) [-Nat.reducePow, TT, TD, Ins.fin, Th.on, Th.begun, isOp, Th.op, Th.does, Ins.fit, Th.place, reg, wordAt, setWord, Th.own, Ins.known, Th.told, mz.own, Cs.put, Cs.go, Th.finish, hcl, hl, c, d, m1, hb, hz3, b0, b1, b2, b3, b8, b10, b11, b17, b18, b19, b20, b25, f13, f14]
set_option maxRecDepth 100000 in
set_option maxHeartbeats 1000000 in
theorem put_14 (hC : C = [(putCode n v, [])]) (hn : n < 10000) (hl : ws.length < 1000000) (hb : z + 2 < ws.length) (hz2 : (z + 2) % W64 = z + 2) :
    (TT C 14 v 0 0 0 t m z 0 (t + 1) 1 []).op 40 [ws] = some (TD C [1], [ws.set (z + 2) (t + 1)], (2, z + 2)) := by
  have hcl : C.length = 1 := by rw [hC]; rfl
  have f14 := ins_at C _ _ hC 14 ⟨2, 0, 14, 12, 0, 0, 2⟩ rfl
  have f15 := ins_at C _ _ hC 15 ⟨6, 0, 1, 0, 0, 0, 1⟩ rfl
  have f16 := ins_at C _ _ hC 16 ⟨18, 0, 0, 0, 0, 0, 18⟩ rfl
  have f18 := ins_at C _ _ hC 18 ⟨22, 0, 1, 0, 0, 0, 0⟩ rfl
  have f19 := ins_at C _ _ hC 19 Ins.fin rfl
  obtain ⟨c, d, b⟩ := fits hn
  have b0 := b 0 (by omega)
  have b1 := b 1 (by omega)
  have b2 := b 2 (by omega)
  have b3 := b 3 (by omega)
  have b8 := b 8 (by omega)
  have b10 := b 10 (by omega)
  have b11 := b 11 (by omega)
  have b17 := b 17 (by omega)
  have b18 := b 18 (by omega)
  have b19 := b 19 (by omega)
  have b20 := b 20 (by omega)
  have b25 := b 25 (by omega)
  have m1 : 1 % W64 = 1 := Nat.mod_eq_of_lt b1
  clear hC b hn
  simp (config := { maxSteps := 200000 }) [-Nat.reducePow, TT, TD, Ins.fin, Th.on, Th.begun, isOp, Th.op, Th.does, Ins.fit, Th.place, reg, wordAt, setWord, Th.own, Ins.known, Th.told, mz.own, Cs.put, Cs.go, Th.finish, hcl, hl, c, d, m1, hb, hz2, b0, b1, b2, b3, b8, b10, b11, b17, b18, b19, b20, b25, f14, f15, f16, f18, f19]
set_option maxRecDepth 100000 in
set_option maxHeartbeats 1000000 in
theorem take_0 (hC : C = [(takeCode n, [])]) (hn : n < 10000) (hl : ws.length < 1000000) (hb : 1 < ws.length) (h : ws[1]?.getD 0 = t) (hz : (t &&& (n - 1)) * 2 ^ 1 % W64 = z) (ht1 : (t + 1) % W64 = t + 1) :
    (TT C 0 0 0 0 0 0 0 0 0 0 0 []).op 40 [ws] = some (TT C 5 0 0 0 0 t (n - 1) z 0 (t + 1) 0 [], [ws], (1, 1)) := by
  have hcl : C.length = 1 := by rw [hC]; rfl
  have f0 := ins_at C _ _ hC 0 ⟨1, 0, 10, 9, 0, 0, 1⟩ rfl
  have f1 := ins_at C _ _ hC 1 ⟨6, 0, 11, 0, 0, 0, n - 1⟩ rfl
  have f2 := ins_at C _ _ hC 2 ⟨12, 0, 12, 10, 11, 0, 0⟩ rfl
  have f3 := ins_at C _ _ hC 3 ⟨14, 0, 12, 12, 0, 0, 1⟩ rfl
  have f4 := ins_at C _ _ hC 4 ⟨8, 0, 14, 10, 9, 0, 1⟩ rfl
  have f5 := ins_at C _ _ hC 5 ⟨1, 0, 13, 12, 0, 0, 2⟩ rfl
  obtain ⟨c, d, b⟩ := fits hn
  have b0 := b 0 (by omega)
  have b1 := b 1 (by omega)
  have b2 := b 2 (by omega)
  have b3 := b 3 (by omega)
  have b8 := b 8 (by omega)
  have b10 := b 10 (by omega)
  have b11 := b 11 (by omega)
  have b17 := b 17 (by omega)
  have b18 := b 18 (by omega)
  have b19 := b 19 (by omega)
  have b20 := b 20 (by omega)
  have b25 := b 25 (by omega)
  have m1 : 1 % W64 = 1 := Nat.mod_eq_of_lt b1
  have h' : ws[1] = t := by rw [List.getElem?_eq_getElem (by omega)] at h; exact h
  clear hC b hn
  simp (config := { maxSteps := 200000 }) [-Nat.reducePow, TT, TD, Ins.fin, Th.on, Th.begun, isOp, Th.op, Th.does, Ins.fit, Th.place, reg, wordAt, setWord, Th.own, Ins.known, Th.told, mz.own, Cs.put, Cs.go, Th.finish, hcl, hl, c, d, m1, hb, h', hz, ht1, b0, b1, b2, b3, b8, b10, b11, b17, b18, b19, b20, b25, f0, f1, f2, f3, f4, f5]
set_option maxRecDepth 100000 in
set_option maxHeartbeats 1000000 in
theorem take_5 (hC : C = [(takeCode n, [])]) (hn : n < 10000) (hl : ws.length < 1000000) (hb : z + 2 < ws.length) (h : ws[z + 2]?.getD 0 = t + 1) (hz2 : (z + 2) % W64 = z + 2) (hd : (t + 1 + (W64 - (t + 1))) % W64 = 0) :
    (TT C 5 0 0 0 0 t m z q (t + 1) 0 []).op 40 [ws] = some (TT C 10 0 0 0 0 t m z 0 (t + 1) 0 [], [ws], (1, z + 2)) := by
  have hcl : C.length = 1 := by rw [hC]; rfl
  have f5 := ins_at C _ _ hC 5 ⟨1, 0, 13, 12, 0, 0, 2⟩ rfl
  have f6 := ins_at C _ _ hC 6 ⟨9, 0, 13, 13, 14, 0, 0⟩ rfl
  have f7 := ins_at C _ _ hC 7 ⟨21, 0, 13, 0, 0, 0, 17⟩ rfl
  have f8 := ins_at C _ _ hC 8 ⟨19, 0, 13, 9, 0, 0, 10⟩ rfl
  have f10 := ins_at C _ _ hC 10 ⟨5, 0, 15, 9, 10, 14, 1⟩ rfl
  obtain ⟨c, d, b⟩ := fits hn
  have b0 := b 0 (by omega)
  have b1 := b 1 (by omega)
  have b2 := b 2 (by omega)
  have b3 := b 3 (by omega)
  have b8 := b 8 (by omega)
  have b10 := b 10 (by omega)
  have b11 := b 11 (by omega)
  have b17 := b 17 (by omega)
  have b18 := b 18 (by omega)
  have b19 := b 19 (by omega)
  have b20 := b 20 (by omega)
  have b25 := b 25 (by omega)
  have m1 : 1 % W64 = 1 := Nat.mod_eq_of_lt b1
  have h' : ws[z + 2] = t + 1 := by rw [List.getElem?_eq_getElem (by omega)] at h; exact h
  clear hC b hn
  simp (config := { maxSteps := 200000 }) [-Nat.reducePow, TT, TD, Ins.fin, Th.on, Th.begun, isOp, Th.op, Th.does, Ins.fit, Th.place, reg, wordAt, setWord, Th.own, Ins.known, Th.told, mz.own, Cs.put, Cs.go, Th.finish, hcl, hl, c, d, m1, hb, h', hz2, hd, b0, b1, b2, b3, b8, b10, b11, b17, b18, b19, b20, b25, f5, f6, f7, f8, f10]
set_option maxRecDepth 100000 in
set_option maxHeartbeats 1000000 in
theorem take_5no (hC : C = [(takeCode n, [])]) (hn : n < 10000) (hl : ws.length < 1000000) (hb : z + 2 < ws.length) (h : ws[z + 2]?.getD 0 = t) (hz2 : (z + 2) % W64 = z + 2) (hd : (t + (W64 - (t + 1))) % W64 = y) (hy : y / 9223372036854775808 = 1) :
    (TT C 5 0 0 0 0 t m z q (t + 1) 0 []).op 40 [ws] = some (TD C [0, 0], [ws], (1, z + 2)) := by
  have hcl : C.length = 1 := by rw [hC]; rfl
  have f5 := ins_at C _ _ hC 5 ⟨1, 0, 13, 12, 0, 0, 2⟩ rfl
  have f6 := ins_at C _ _ hC 6 ⟨9, 0, 13, 13, 14, 0, 0⟩ rfl
  have f7 := ins_at C _ _ hC 7 ⟨21, 0, 13, 0, 0, 0, 17⟩ rfl
  have f17 := ins_at C _ _ hC 17 ⟨6, 0, 1, 0, 0, 0, 0⟩ rfl
  have f18 := ins_at C _ _ hC 18 ⟨6, 0, 0, 0, 0, 0, 0⟩ rfl
  have f19 := ins_at C _ _ hC 19 ⟨22, 0, 0, 0, 0, 0, 0⟩ rfl
  have f20 := ins_at C _ _ hC 20 ⟨22, 0, 1, 0, 0, 0, 0⟩ rfl
  have f21 := ins_at C _ _ hC 21 Ins.fin rfl
  obtain ⟨c, d, b⟩ := fits hn
  have b0 := b 0 (by omega)
  have b1 := b 1 (by omega)
  have b2 := b 2 (by omega)
  have b3 := b 3 (by omega)
  have b8 := b 8 (by omega)
  have b10 := b 10 (by omega)
  have b11 := b 11 (by omega)
  have b17 := b 17 (by omega)
  have b18 := b 18 (by omega)
  have b19 := b 19 (by omega)
  have b20 := b 20 (by omega)
  have b25 := b 25 (by omega)
  have m1 : 1 % W64 = 1 := Nat.mod_eq_of_lt b1
  have h' : ws[z + 2] = t := by rw [List.getElem?_eq_getElem (by omega)] at h; exact h
  clear hC b hn
  simp (config := { maxSteps := 200000 }) [-Nat.reducePow, TT, TD, Ins.fin, Th.on, Th.begun, isOp, Th.op, Th.does, Ins.fit, Th.place, reg, wordAt, setWord, Th.own, Ins.known, Th.told, mz.own, Cs.put, Cs.go, Th.finish, hcl, hl, c, d, m1, hb, h', hz2, hd, hy, b0, b1, b2, b3, b8, b10, b11, b17, b18, b19, b20, b25, f5, f6, f7, f17, f18, f19, f20, f21]
set_option maxRecDepth 100000 in
set_option maxHeartbeats 1000000 in
theorem take_10 (hC : C = [(takeCode n, [])]) (hn : n < 10000) (hl : ws.length < 1000000) (hb : 1 < ws.length) (h : ws[1]?.getD 0 = t) :
    (TT C 10 0 0 0 0 t m z 0 (t + 1) 0 []).op 40 [ws] = some (TT C 12 0 0 0 0 t m z 0 (t + 1) 1 [], [ws.set 1 (t + 1)], (5, 1)) := by
  have hcl : C.length = 1 := by rw [hC]; rfl
  have f10 := ins_at C _ _ hC 10 ⟨5, 0, 15, 9, 10, 14, 1⟩ rfl
  have f11 := ins_at C _ _ hC 11 ⟨19, 0, 15, 9, 0, 0, 0⟩ rfl
  have f12 := ins_at C _ _ hC 12 ⟨1, 0, 0, 12, 0, 0, 3⟩ rfl
  obtain ⟨c, d, b⟩ := fits hn
  have b0 := b 0 (by omega)
  have b1 := b 1 (by omega)
  have b2 := b 2 (by omega)
  have b3 := b 3 (by omega)
  have b8 := b 8 (by omega)
  have b10 := b 10 (by omega)
  have b11 := b 11 (by omega)
  have b17 := b 17 (by omega)
  have b18 := b 18 (by omega)
  have b19 := b 19 (by omega)
  have b20 := b 20 (by omega)
  have b25 := b 25 (by omega)
  have m1 : 1 % W64 = 1 := Nat.mod_eq_of_lt b1
  have h' : ws[1] = t := by rw [List.getElem?_eq_getElem (by omega)] at h; exact h
  clear hC b hn
  simp (config := { maxSteps := 200000 }) [-Nat.reducePow, TT, TD, Ins.fin, Th.on, Th.begun, isOp, Th.op, Th.does, Ins.fit, Th.place, reg, wordAt, setWord, Th.own, Ins.known, Th.told, mz.own, Cs.put, Cs.go, Th.finish, hcl, hl, c, d, m1, hb, h', b0, b1, b2, b3, b8, b10, b11, b17, b18, b19, b20, b25, f10, f11, f12]
set_option maxRecDepth 100000 in
set_option maxHeartbeats 1000000 in
theorem take_12 (hC : C = [(takeCode n, [])]) (hn : n < 10000) (hl : ws.length < 1000000) (hb : z + 3 < ws.length) (h : ws[z + 3]?.getD 0 = x) (hz3 : (z + 3) % W64 = z + 3) (htn : (t + n) % W64 = t + n) :
    (TT C 12 0 0 0 0 t m z 0 (t + 1) 1 []).op 40 [ws] = some (TT C 14 x 0 0 0 t m z 0 (t + n) 1 [], [ws], (1, z + 3)) := by
  have hcl : C.length = 1 := by rw [hC]; rfl
  have f12 := ins_at C _ _ hC 12 ⟨1, 0, 0, 12, 0, 0, 3⟩ rfl
  have f13 := ins_at C _ _ hC 13 ⟨8, 0, 14, 10, 9, 0, n⟩ rfl
  have f14 := ins_at C _ _ hC 14 ⟨2, 0, 14, 12, 0, 0, 2⟩ rfl
  obtain ⟨c, d, b⟩ := fits hn
  have b0 := b 0 (by omega)
  have b1 := b 1 (by omega)
  have b2 := b 2 (by omega)
  have b3 := b 3 (by omega)
  have b8 := b 8 (by omega)
  have b10 := b 10 (by omega)
  have b11 := b 11 (by omega)
  have b17 := b 17 (by omega)
  have b18 := b 18 (by omega)
  have b19 := b 19 (by omega)
  have b20 := b 20 (by omega)
  have b25 := b 25 (by omega)
  have m1 : 1 % W64 = 1 := Nat.mod_eq_of_lt b1
  have h' : ws[z + 3] = x := by rw [List.getElem?_eq_getElem (by omega)] at h; exact h
  clear hC b hn
  simp (config := { maxSteps := 200000 }) [-Nat.reducePow, TT, TD, Ins.fin, Th.on, Th.begun, isOp, Th.op, Th.does, Ins.fit, Th.place, reg, wordAt, setWord, Th.own, Ins.known, Th.told, mz.own, Cs.put, Cs.go, Th.finish, hcl, hl, c, d, m1, hb, h', hz3, htn, b0, b1, b2, b3, b8, b10, b11, b17, b18, b19, b20, b25, f12, f13, f14]
set_option maxRecDepth 100000 in
set_option maxHeartbeats 1000000 in
theorem take_14 (hC : C = [(takeCode n, [])]) (hn : n < 10000) (hl : ws.length < 1000000) (hb : z + 2 < ws.length) (hz2 : (z + 2) % W64 = z + 2) :
    (TT C 14 x 0 0 0 t m z 0 (t + n) 1 []).op 40 [ws] = some (TD C [x, 1], [ws.set (z + 2) (t + n)], (2, z + 2)) := by
  have hcl : C.length = 1 := by rw [hC]; rfl
  have f14 := ins_at C _ _ hC 14 ⟨2, 0, 14, 12, 0, 0, 2⟩ rfl
  have f15 := ins_at C _ _ hC 15 ⟨6, 0, 1, 0, 0, 0, 1⟩ rfl
  have f16 := ins_at C _ _ hC 16 ⟨18, 0, 0, 0, 0, 0, 19⟩ rfl
  have f19 := ins_at C _ _ hC 19 ⟨22, 0, 0, 0, 0, 0, 0⟩ rfl
  have f20 := ins_at C _ _ hC 20 ⟨22, 0, 1, 0, 0, 0, 0⟩ rfl
  have f21 := ins_at C _ _ hC 21 Ins.fin rfl
  obtain ⟨c, d, b⟩ := fits hn
  have b0 := b 0 (by omega)
  have b1 := b 1 (by omega)
  have b2 := b 2 (by omega)
  have b3 := b 3 (by omega)
  have b8 := b 8 (by omega)
  have b10 := b 10 (by omega)
  have b11 := b 11 (by omega)
  have b17 := b 17 (by omega)
  have b18 := b 18 (by omega)
  have b19 := b 19 (by omega)
  have b20 := b 20 (by omega)
  have b25 := b 25 (by omega)
  have m1 : 1 % W64 = 1 := Nat.mod_eq_of_lt b1
  clear hC b hn
  simp (config := { maxSteps := 200000 }) [-Nat.reducePow, TT, TD, Ins.fin, Th.on, Th.begun, isOp, Th.op, Th.does, Ins.fit, Th.place, reg, wordAt, setWord, Th.own, Ins.known, Th.told, mz.own, Cs.put, Cs.go, Th.finish, hcl, hl, c, d, m1, hb, hz2, b0, b1, b2, b3, b8, b10, b11, b17, b18, b19, b20, b25, f14, f15, f16, f19, f20, f21]
set_option maxRecDepth 100000 in
set_option maxHeartbeats 1000000 in
theorem drain_1 (hC : C = [(drainCode n, [])]) (hn : n < 10000) (hl : ws.length < 1000000) (hb : 1 < ws.length) (h : ws[1]?.getD 0 = t) (hz : (t &&& (n - 1)) * 2 ^ 1 % W64 = s) (ht1 : (t + 1) % W64 = t + 1) (hts : ts.length < 900) :
    (TT C 1 r0 r1 k r4 p m z q y i ts).op 40 [ws] = some (TT C 6 r0 r1 k r4 t (n - 1) s q (t + 1) i ts, [ws], (1, 1)) := by
  have hcl : C.length = 1 := by rw [hC]; rfl
  have f1 := ins_at C _ _ hC 1 ⟨1, 0, 10, 9, 0, 0, 1⟩ rfl
  have f2 := ins_at C _ _ hC 2 ⟨6, 0, 11, 0, 0, 0, n - 1⟩ rfl
  have f3 := ins_at C _ _ hC 3 ⟨12, 0, 12, 10, 11, 0, 0⟩ rfl
  have f4 := ins_at C _ _ hC 4 ⟨14, 0, 12, 12, 0, 0, 1⟩ rfl
  have f5 := ins_at C _ _ hC 5 ⟨8, 0, 14, 10, 9, 0, 1⟩ rfl
  have f6 := ins_at C _ _ hC 6 ⟨1, 0, 13, 12, 0, 0, 2⟩ rfl
  obtain ⟨c, d, b⟩ := fits hn
  have b0 := b 0 (by omega)
  have b1 := b 1 (by omega)
  have b2 := b 2 (by omega)
  have b3 := b 3 (by omega)
  have b8 := b 8 (by omega)
  have b10 := b 10 (by omega)
  have b11 := b 11 (by omega)
  have b17 := b 17 (by omega)
  have b18 := b 18 (by omega)
  have b19 := b 19 (by omega)
  have b20 := b 20 (by omega)
  have b25 := b 25 (by omega)
  have m1 : 1 % W64 = 1 := Nat.mod_eq_of_lt b1
  have h' : ws[1] = t := by rw [List.getElem?_eq_getElem (by omega)] at h; exact h
  have hts1 : ts.length < 1000 := by omega
  have hts2 : ts.length + 1 < 1000 := by omega
  clear hC b hn
  simp (config := { maxSteps := 200000 }) [-Nat.reducePow, TT, TD, Ins.fin, Th.on, Th.begun, isOp, Th.op, Th.does, Ins.fit, Th.place, reg, wordAt, setWord, Th.own, Ins.known, Th.told, mz.own, Cs.put, Cs.go, Th.finish, hcl, hl, c, d, m1, hb, h', hz, ht1, hts1, b0, b1, b2, b3, b8, b10, b11, b17, b18, b19, b20, b25, f1, f2, f3, f4, f5, f6]
set_option maxRecDepth 100000 in
set_option maxHeartbeats 1000000 in
theorem drain_6 (hC : C = [(drainCode n, [])]) (hn : n < 10000) (hl : ws.length < 1000000) (hb : z + 2 < ws.length) (h : ws[z + 2]?.getD 0 = t + 1) (hz2 : (z + 2) % W64 = z + 2) (hd : (t + 1 + (W64 - (t + 1))) % W64 = 0) (hts : ts.length < 900) :
    (TT C 6 r0 r1 k r4 t m z q (t + 1) i ts).op 40 [ws] = some (TT C 11 r0 r1 k r4 t m z 0 (t + 1) i ts, [ws], (1, z + 2)) := by
  have hcl : C.length = 1 := by rw [hC]; rfl
  have f6 := ins_at C _ _ hC 6 ⟨1, 0, 13, 12, 0, 0, 2⟩ rfl
  have f7 := ins_at C _ _ hC 7 ⟨9, 0, 13, 13, 14, 0, 0⟩ rfl
  have f8 := ins_at C _ _ hC 8 ⟨21, 0, 13, 0, 0, 0, 18⟩ rfl
  have f9 := ins_at C _ _ hC 9 ⟨19, 0, 13, 9, 0, 0, 11⟩ rfl
  have f11 := ins_at C _ _ hC 11 ⟨5, 0, 15, 9, 10, 14, 1⟩ rfl
  obtain ⟨c, d, b⟩ := fits hn
  have b0 := b 0 (by omega)
  have b1 := b 1 (by omega)
  have b2 := b 2 (by omega)
  have b3 := b 3 (by omega)
  have b8 := b 8 (by omega)
  have b10 := b 10 (by omega)
  have b11 := b 11 (by omega)
  have b17 := b 17 (by omega)
  have b18 := b 18 (by omega)
  have b19 := b 19 (by omega)
  have b20 := b 20 (by omega)
  have b25 := b 25 (by omega)
  have m1 : 1 % W64 = 1 := Nat.mod_eq_of_lt b1
  have h' : ws[z + 2] = t + 1 := by rw [List.getElem?_eq_getElem (by omega)] at h; exact h
  have hts1 : ts.length < 1000 := by omega
  have hts2 : ts.length + 1 < 1000 := by omega
  clear hC b hn
  simp (config := { maxSteps := 200000 }) [-Nat.reducePow, TT, TD, Ins.fin, Th.on, Th.begun, isOp, Th.op, Th.does, Ins.fit, Th.place, reg, wordAt, setWord, Th.own, Ins.known, Th.told, mz.own, Cs.put, Cs.go, Th.finish, hcl, hl, c, d, m1, hb, h', hz2, hd, hts1, b0, b1, b2, b3, b8, b10, b11, b17, b18, b19, b20, b25, f6, f7, f8, f9, f11]
set_option maxRecDepth 100000 in
set_option maxHeartbeats 1000000 in
theorem drain_6no (hC : C = [(drainCode n, [])]) (hn : n < 10000) (hl : ws.length < 1000000) (hb : z + 2 < ws.length) (h : ws[z + 2]?.getD 0 = t) (hz2 : (z + 2) % W64 = z + 2) (hd : (t + (W64 - (t + 1))) % W64 = y) (hy : y / 9223372036854775808 = 1) (hts : ts.length < 900) :
    (TT C 6 r0 r1 k r4 t m z q (t + 1) i ts).op 40 [ws] = some (TD C ts, [ws], (1, z + 2)) := by
  have hcl : C.length = 1 := by rw [hC]; rfl
  have f6 := ins_at C _ _ hC 6 ⟨1, 0, 13, 12, 0, 0, 2⟩ rfl
  have f7 := ins_at C _ _ hC 7 ⟨9, 0, 13, 13, 14, 0, 0⟩ rfl
  have f8 := ins_at C _ _ hC 8 ⟨21, 0, 13, 0, 0, 0, 18⟩ rfl
  have f18 := ins_at C _ _ hC 18 ⟨6, 0, 1, 0, 0, 0, 0⟩ rfl
  have f19 := ins_at C _ _ hC 19 ⟨6, 0, 0, 0, 0, 0, 0⟩ rfl
  have f20 := ins_at C _ _ hC 20 ⟨19, 0, 1, 9, 0, 0, 25⟩ rfl
  have f25 := ins_at C _ _ hC 25 Ins.fin rfl
  obtain ⟨c, d, b⟩ := fits hn
  have b0 := b 0 (by omega)
  have b1 := b 1 (by omega)
  have b2 := b 2 (by omega)
  have b3 := b 3 (by omega)
  have b8 := b 8 (by omega)
  have b10 := b 10 (by omega)
  have b11 := b 11 (by omega)
  have b17 := b 17 (by omega)
  have b18 := b 18 (by omega)
  have b19 := b 19 (by omega)
  have b20 := b 20 (by omega)
  have b25 := b 25 (by omega)
  have m1 : 1 % W64 = 1 := Nat.mod_eq_of_lt b1
  have h' : ws[z + 2] = t := by rw [List.getElem?_eq_getElem (by omega)] at h; exact h
  have hts1 : ts.length < 1000 := by omega
  have hts2 : ts.length + 1 < 1000 := by omega
  clear hC b hn
  simp (config := { maxSteps := 200000 }) [-Nat.reducePow, TT, TD, Ins.fin, Th.on, Th.begun, isOp, Th.op, Th.does, Ins.fit, Th.place, reg, wordAt, setWord, Th.own, Ins.known, Th.told, mz.own, Cs.put, Cs.go, Th.finish, hcl, hl, c, d, m1, hb, h', hz2, hd, hy, hts1, b0, b1, b2, b3, b8, b10, b11, b17, b18, b19, b20, b25, f6, f7, f8, f18, f19, f20, f25]
set_option maxRecDepth 100000 in
set_option maxHeartbeats 1000000 in
theorem drain_11 (hC : C = [(drainCode n, [])]) (hn : n < 10000) (hl : ws.length < 1000000) (hb : 1 < ws.length) (h : ws[1]?.getD 0 = t) (hts : ts.length < 900) :
    (TT C 11 r0 r1 k r4 t m z 0 (t + 1) i ts).op 40 [ws] = some (TT C 13 r0 r1 k r4 t m z 0 (t + 1) 1 ts, [ws.set 1 (t + 1)], (5, 1)) := by
  have hcl : C.length = 1 := by rw [hC]; rfl
  have f11 := ins_at C _ _ hC 11 ⟨5, 0, 15, 9, 10, 14, 1⟩ rfl
  have f12 := ins_at C _ _ hC 12 ⟨19, 0, 15, 9, 0, 0, 1⟩ rfl
  have f13 := ins_at C _ _ hC 13 ⟨1, 0, 0, 12, 0, 0, 3⟩ rfl
  obtain ⟨c, d, b⟩ := fits hn
  have b0 := b 0 (by omega)
  have b1 := b 1 (by omega)
  have b2 := b 2 (by omega)
  have b3 := b 3 (by omega)
  have b8 := b 8 (by omega)
  have b10 := b 10 (by omega)
  have b11 := b 11 (by omega)
  have b17 := b 17 (by omega)
  have b18 := b 18 (by omega)
  have b19 := b 19 (by omega)
  have b20 := b 20 (by omega)
  have b25 := b 25 (by omega)
  have m1 : 1 % W64 = 1 := Nat.mod_eq_of_lt b1
  have h' : ws[1] = t := by rw [List.getElem?_eq_getElem (by omega)] at h; exact h
  have hts1 : ts.length < 1000 := by omega
  have hts2 : ts.length + 1 < 1000 := by omega
  clear hC b hn
  simp (config := { maxSteps := 200000 }) [-Nat.reducePow, TT, TD, Ins.fin, Th.on, Th.begun, isOp, Th.op, Th.does, Ins.fit, Th.place, reg, wordAt, setWord, Th.own, Ins.known, Th.told, mz.own, Cs.put, Cs.go, Th.finish, hcl, hl, c, d, m1, hb, h', hts1, b0, b1, b2, b3, b8, b10, b11, b17, b18, b19, b20, b25, f11, f12, f13]
set_option maxRecDepth 100000 in
set_option maxHeartbeats 1000000 in
theorem drain_13 (hC : C = [(drainCode n, [])]) (hn : n < 10000) (hl : ws.length < 1000000) (hb : z + 3 < ws.length) (h : ws[z + 3]?.getD 0 = x) (hz3 : (z + 3) % W64 = z + 3) (htn : (t + n) % W64 = t + n) (hts : ts.length < 900) :
    (TT C 13 r0 r1 k r4 t m z 0 (t + 1) 1 ts).op 40 [ws] = some (TT C 15 x r1 k r4 t m z 0 (t + n) 1 ts, [ws], (1, z + 3)) := by
  have hcl : C.length = 1 := by rw [hC]; rfl
  have f13 := ins_at C _ _ hC 13 ⟨1, 0, 0, 12, 0, 0, 3⟩ rfl
  have f14 := ins_at C _ _ hC 14 ⟨8, 0, 14, 10, 9, 0, n⟩ rfl
  have f15 := ins_at C _ _ hC 15 ⟨2, 0, 14, 12, 0, 0, 2⟩ rfl
  obtain ⟨c, d, b⟩ := fits hn
  have b0 := b 0 (by omega)
  have b1 := b 1 (by omega)
  have b2 := b 2 (by omega)
  have b3 := b 3 (by omega)
  have b8 := b 8 (by omega)
  have b10 := b 10 (by omega)
  have b11 := b 11 (by omega)
  have b17 := b 17 (by omega)
  have b18 := b 18 (by omega)
  have b19 := b 19 (by omega)
  have b20 := b 20 (by omega)
  have b25 := b 25 (by omega)
  have m1 : 1 % W64 = 1 := Nat.mod_eq_of_lt b1
  have h' : ws[z + 3] = x := by rw [List.getElem?_eq_getElem (by omega)] at h; exact h
  have hts1 : ts.length < 1000 := by omega
  have hts2 : ts.length + 1 < 1000 := by omega
  clear hC b hn
  simp (config := { maxSteps := 200000 }) [-Nat.reducePow, TT, TD, Ins.fin, Th.on, Th.begun, isOp, Th.op, Th.does, Ins.fit, Th.place, reg, wordAt, setWord, Th.own, Ins.known, Th.told, mz.own, Cs.put, Cs.go, Th.finish, hcl, hl, c, d, m1, hb, h', hz3, htn, hts1, b0, b1, b2, b3, b8, b10, b11, b17, b18, b19, b20, b25, f13, f14, f15]
set_option maxRecDepth 100000 in
set_option maxHeartbeats 1000000 in
theorem drain_15on (hC : C = [(drainCode n, [])]) (hn : n < 10000) (hl : ws.length < 1000000) (hb : z + 2 < ws.length) (hz2 : (z + 2) % W64 = z + 2) (hk : (k + (W64 - 1)) % W64 = k - 1) (hk0 : 0 < k - 1) (hts : ts.length < 900) :
    (TT C 15 x r1 k r4 t m z 0 (t + n) 1 ts).op 40 [ws] = some (TT C 1 x 1 (k - 1) 1 t m z 0 (t + n) 1 (ts ++ [x]), [ws.set (z + 2) (t + n)], (2, z + 2)) := by
  have hcl : C.length = 1 := by rw [hC]; rfl
  have f15 := ins_at C _ _ hC 15 ⟨2, 0, 14, 12, 0, 0, 2⟩ rfl
  have f16 := ins_at C _ _ hC 16 ⟨6, 0, 1, 0, 0, 0, 1⟩ rfl
  have f17 := ins_at C _ _ hC 17 ⟨18, 0, 0, 0, 0, 0, 20⟩ rfl
  have f20 := ins_at C _ _ hC 20 ⟨19, 0, 1, 9, 0, 0, 25⟩ rfl
  have f21 := ins_at C _ _ hC 21 ⟨22, 0, 0, 0, 0, 0, 0⟩ rfl
  have f22 := ins_at C _ _ hC 22 ⟨6, 0, 4, 0, 0, 0, 1⟩ rfl
  have f23 := ins_at C _ _ hC 23 ⟨9, 0, 3, 3, 4, 0, 0⟩ rfl
  have f24 := ins_at C _ _ hC 24 ⟨20, 0, 9, 3, 0, 0, 1⟩ rfl
  have f1 := ins_at C _ _ hC 1 ⟨1, 0, 10, 9, 0, 0, 1⟩ rfl
  obtain ⟨c, d, b⟩ := fits hn
  have b0 := b 0 (by omega)
  have b1 := b 1 (by omega)
  have b2 := b 2 (by omega)
  have b3 := b 3 (by omega)
  have b8 := b 8 (by omega)
  have b10 := b 10 (by omega)
  have b11 := b 11 (by omega)
  have b17 := b 17 (by omega)
  have b18 := b 18 (by omega)
  have b19 := b 19 (by omega)
  have b20 := b 20 (by omega)
  have b25 := b 25 (by omega)
  have m1 : 1 % W64 = 1 := Nat.mod_eq_of_lt b1
  have hts1 : ts.length < 1000 := by omega
  have hts2 : ts.length + 1 < 1000 := by omega
  clear hC b hn
  simp (config := { maxSteps := 200000 }) [-Nat.reducePow, TT, TD, Ins.fin, Th.on, Th.begun, isOp, Th.op, Th.does, Ins.fit, Th.place, reg, wordAt, setWord, Th.own, Ins.known, Th.told, mz.own, Cs.put, Cs.go, Th.finish, hcl, hl, c, d, m1, hb, hz2, hk, hk0, hts1, hts2, b0, b1, b2, b3, b8, b10, b11, b17, b18, b19, b20, b25, f15, f16, f17, f20, f21, f22, f23, f24, f1]
set_option maxRecDepth 100000 in
set_option maxHeartbeats 1000000 in
theorem drain_15off (hC : C = [(drainCode n, [])]) (hn : n < 10000) (hl : ws.length < 1000000) (hb : z + 2 < ws.length) (hz2 : (z + 2) % W64 = z + 2) (hk : (k + (W64 - 1)) % W64 = k - 1) (hk0 : ¬ 0 < k - 1) (hts : ts.length < 900) :
    (TT C 15 x r1 k r4 t m z 0 (t + n) 1 ts).op 40 [ws] = some (TD C (ts ++ [x]), [ws.set (z + 2) (t + n)], (2, z + 2)) := by
  have hcl : C.length = 1 := by rw [hC]; rfl
  have f15 := ins_at C _ _ hC 15 ⟨2, 0, 14, 12, 0, 0, 2⟩ rfl
  have f16 := ins_at C _ _ hC 16 ⟨6, 0, 1, 0, 0, 0, 1⟩ rfl
  have f17 := ins_at C _ _ hC 17 ⟨18, 0, 0, 0, 0, 0, 20⟩ rfl
  have f20 := ins_at C _ _ hC 20 ⟨19, 0, 1, 9, 0, 0, 25⟩ rfl
  have f21 := ins_at C _ _ hC 21 ⟨22, 0, 0, 0, 0, 0, 0⟩ rfl
  have f22 := ins_at C _ _ hC 22 ⟨6, 0, 4, 0, 0, 0, 1⟩ rfl
  have f23 := ins_at C _ _ hC 23 ⟨9, 0, 3, 3, 4, 0, 0⟩ rfl
  have f24 := ins_at C _ _ hC 24 ⟨20, 0, 9, 3, 0, 0, 1⟩ rfl
  have f25 := ins_at C _ _ hC 25 Ins.fin rfl
  obtain ⟨c, d, b⟩ := fits hn
  have b0 := b 0 (by omega)
  have b1 := b 1 (by omega)
  have b2 := b 2 (by omega)
  have b3 := b 3 (by omega)
  have b8 := b 8 (by omega)
  have b10 := b 10 (by omega)
  have b11 := b 11 (by omega)
  have b17 := b 17 (by omega)
  have b18 := b 18 (by omega)
  have b19 := b 19 (by omega)
  have b20 := b 20 (by omega)
  have b25 := b 25 (by omega)
  have m1 : 1 % W64 = 1 := Nat.mod_eq_of_lt b1
  have hts1 : ts.length < 1000 := by omega
  have hts2 : ts.length + 1 < 1000 := by omega
  clear hC b hn
  simp (config := { maxSteps := 200000 }) [-Nat.reducePow, TT, TD, Ins.fin, Th.on, Th.begun, isOp, Th.op, Th.does, Ins.fit, Th.place, reg, wordAt, setWord, Th.own, Ins.known, Th.told, mz.own, Cs.put, Cs.go, Th.finish, hcl, hl, c, d, m1, hb, hz2, hk, hk0, hts1, hts2, b0, b1, b2, b3, b8, b10, b11, b17, b18, b19, b20, b25, f15, f16, f17, f20, f21, f22, f23, f24, f25]
set_option maxRecDepth 100000 in
set_option maxHeartbeats 1000000 in
theorem put_s (hC : C = [(putCode n v, [])]) (hn : n < 10000) (hv : v < W64) : (Th.fresh C).on 40 = some (TT C 1 v 0 0 0 0 0 0 0 0 0 []) := by
  have hcl : C.length = 1 := by rw [hC]; rfl
  have f0 := ins_at C _ _ hC 0 ⟨6, 0, 0, 0, 0, 0, v⟩ rfl
  have f1 := ins_at C _ _ hC 1 ⟨1, 0, 10, 9, 0, 0, 0⟩ rfl
  obtain ⟨c, d, b⟩ := fits hn
  have b0 := b 0 (by omega)
  have b1 := b 1 (by omega)
  have b3 := b 3 (by omega)
  clear hC b hn
  simp (config := { maxSteps := 200000 }) [-Nat.reducePow, Th.fresh, TT, TD, Ins.fin, Th.on, Th.begun, isOp, Th.op, Th.does, Ins.fit, Th.place, reg, wordAt, setWord, Th.own, Ins.known, Th.told, mz.own, Cs.put, Cs.go, Th.finish, hcl, c, d, hv, b0, b1, b3, f0, f1]
set_option maxRecDepth 100000 in
set_option maxHeartbeats 1000000 in
theorem take_s (hC : C = [(takeCode n, [])]) (hn : n < 10000)  : (Th.fresh C).on 40 = some (TT C 0 0 0 0 0 0 0 0 0 0 0 []) := by
  have hcl : C.length = 1 := by rw [hC]; rfl
  have f0 := ins_at C _ _ hC 0 ⟨1, 0, 10, 9, 0, 0, 1⟩ rfl
  obtain ⟨c, d, b⟩ := fits hn
  have b0 := b 0 (by omega)
  have b1 := b 1 (by omega)
  have b3 := b 3 (by omega)
  clear hC b hn
  simp (config := { maxSteps := 200000 }) [-Nat.reducePow, Th.fresh, TT, TD, Ins.fin, Th.on, Th.begun, isOp, Th.op, Th.does, Ins.fit, Th.place, reg, wordAt, setWord, Th.own, Ins.known, Th.told, mz.own, Cs.put, Cs.go, Th.finish, hcl, c, d, b0, b1, b3, f0]
set_option maxRecDepth 100000 in
set_option maxHeartbeats 1000000 in
theorem drain_s (hC : C = [(drainCode n, [])]) (hn : n < 10000)  : (Th.fresh C).on 40 = some (TT C 1 0 0 n 0 0 0 0 0 0 0 []) := by
  have hcl : C.length = 1 := by rw [hC]; rfl
  have f0 := ins_at C _ _ hC 0 ⟨6, 0, 3, 0, 0, 0, n⟩ rfl
  have f1 := ins_at C _ _ hC 1 ⟨1, 0, 10, 9, 0, 0, 1⟩ rfl
  obtain ⟨c, d, b⟩ := fits hn
  have b0 := b 0 (by omega)
  have b1 := b 1 (by omega)
  have b3 := b 3 (by omega)
  clear hC b hn
  simp (config := { maxSteps := 200000 }) [-Nat.reducePow, Th.fresh, TT, TD, Ins.fin, Th.on, Th.begun, isOp, Th.op, Th.does, Ins.fit, Th.place, reg, wordAt, setWord, Th.own, Ins.known, Th.told, mz.own, Cs.put, Cs.go, Th.finish, hcl, c, d, b0, b1, b3, f0, f1]
end
end Go.Proofs.Ytlpgdpdjaoppbaa.rf7
