/-
  patchbayref13: the codes of Take, Level, State and of what is refused, and the plain machine at them.
-/
import Derived.Test.YtgenblefbddilaaMzPl
set_option linter.unusedSimpArgs false
set_option linter.unusedVariables false
namespace Go.Proofs.Ytgenblefbddilaa.rf13
open Go.Proofs.Ytgenblefbddilaa.mz
def takeAt (c q t : Nat) : List Ins := [⟨1, 0, 10, 9, 0, 0, 0⟩, ⟨6, 0, 11, 0, 0, 0, c⟩, ⟨16, 0, 12, 10, 11, 0, 0⟩, ⟨8, 0, 12, 12, 9, 0, q⟩, ⟨6, 0, 13, 0, 0, 0, t⟩, ⟨19, 0, 13, 9, 0, 0, 11⟩, ⟨20, 0, 13, 12, 0, 0, 11⟩, ⟨5, 0, 14, 9, 10, 12, 0⟩, ⟨19, 0, 14, 9, 0, 0, 0⟩, ⟨6, 0, 0, 0, 0, 0, 1⟩, ⟨18, 0, 0, 0, 0, 0, 12⟩, ⟨6, 0, 0, 0, 0, 0, 0⟩]
def levelAt (c f d : Nat) : List Ins := [⟨1, 0, 0, 9, 0, 0, 0⟩, ⟨6, 0, 1, 0, 0, 0, c⟩, ⟨16, 0, 0, 0, 1, 0, 0⟩, ⟨8, 0, 2, 1, 9, 0, f⟩, ⟨6, 0, 3, 0, 0, 0, 0⟩, ⟨20, 0, 2, 0, 0, 0, 9⟩, ⟨9, 0, 2, 2, 0, 0, 0⟩, ⟨6, 0, 4, 0, 0, 0, d⟩, ⟨11, 0, 3, 2, 4, 0, 0⟩]
def stateAt : List Ins := [⟨1, 0, 0, 9, 0, 0, 0⟩]
def lateAt : List Ins := [⟨6, 0, 0, 0, 0, 0, 5⟩]
def takeCode (c q t : Nat) : List Ins := takeAt c q t ++ [⟨22, 0, 9, 0, 0, 0, 0⟩, ⟨22, 0, 0, 0, 0, 0, 0⟩]
def levelCode (c f d : Nat) : List Ins := levelAt c f d ++ [⟨22, 0, 9, 0, 0, 0, 0⟩, ⟨22, 0, 3, 0, 0, 0, 0⟩]
def stateCode : List Ins := stateAt ++ [⟨22, 0, 9, 0, 0, 0, 0⟩, ⟨22, 0, 0, 0, 0, 0, 0⟩]
def lateCode : List Ins := lateAt ++ [⟨22, 0, 0, 0, 0, 0, 0⟩, ⟨22, 0, 9, 0, 0, 0, 0⟩]
theorem ins_at (C : List (List Ins × List Nat)) (c : List Ins) (d : List Nat) (hC : C = [(c, d)]) (k : Nat) (x : Ins) (h : c.getD k Ins.fin = x) (rs : List Nat) (ans : List (Bool × List Nat)) (ov : Bool) : Th.ins ⟨C, 0, k, rs, ans, ov⟩ = x := by
  subst hC; exact h
section
variable {s c q t f d m v r : Nat}
set_option maxRecDepth 100000 in
set_option maxHeartbeats 4000000 in
theorem play_take_yes (hc : c < 18446744073709551616) (hq : q < 18446744073709551616) (ht : t < 18446744073709551616) (hm : max s c = m) (hv : (m + q) % 18446744073709551616 = v) (h0 : ¬ t = 0) (h1 : ¬ t < v) :
    ∃ pl, plays 40 10 [[s]] [] [[(takeCode c q t, [])]] = some pl ∧ pl.ws = [[v]] ∧ pl.trace = [(0, 1, 0), (0, 5, 0)] ∧ pl.ths.map (·.ans) = [[(true, [0, 1])]] := by
  have e0 : W64 = 18446744073709551616 := W64_eq
  obtain ⟨C, hC⟩ : ∃ C, C = [(takeCode c q t, ([] : List Nat))] := ⟨_, rfl⟩
  have hcl : C.length = 1 := by rw [hC]; rfl
  have f0 := ins_at C _ _ hC 0 ⟨1, 0, 10, 9, 0, 0, 0⟩ rfl
  have f1 := ins_at C _ _ hC 1 ⟨6, 0, 11, 0, 0, 0, c⟩ rfl
  have f2 := ins_at C _ _ hC 2 ⟨16, 0, 12, 10, 11, 0, 0⟩ rfl
  have f3 := ins_at C _ _ hC 3 ⟨8, 0, 12, 12, 9, 0, q⟩ rfl
  have f4 := ins_at C _ _ hC 4 ⟨6, 0, 13, 0, 0, 0, t⟩ rfl
  have f5 := ins_at C _ _ hC 5 ⟨19, 0, 13, 9, 0, 0, 11⟩ rfl
  have f6 := ins_at C _ _ hC 6 ⟨20, 0, 13, 12, 0, 0, 11⟩ rfl
  have f7 := ins_at C _ _ hC 7 ⟨5, 0, 14, 9, 10, 12, 0⟩ rfl
  have f8 := ins_at C _ _ hC 8 ⟨19, 0, 14, 9, 0, 0, 0⟩ rfl
  have f9 := ins_at C _ _ hC 9 ⟨6, 0, 0, 0, 0, 0, 1⟩ rfl
  have f10 := ins_at C _ _ hC 10 ⟨18, 0, 0, 0, 0, 0, 12⟩ rfl
  have f12 := ins_at C _ _ hC 12 ⟨22, 0, 9, 0, 0, 0, 0⟩ rfl
  have f13 := ins_at C _ _ hC 13 ⟨22, 0, 0, 0, 0, 0, 0⟩ rfl
  have f14 := ins_at C _ _ hC 14 Ins.fin rfl
  rw [← hC]
  clear hC
  simp (config := { maxSteps := 1000000 }) [plays, Ins.fin, Pl.starts, Th.fresh, Th.on, Th.begun, isOp, Pl.byOrder, Pl.rounds, Pl.round, Pl.over, Pl.turn, Th.op, Th.does, Ins.fit, Th.place, reg, wordAt, setWord, Th.own, Ins.known, Th.told, mz.own, Cs.put, Cs.go, Th.finish, e0, hcl, hc, hq, ht, hm, hv, h0, h1, f0, f1, f2, f3, f4, f5, f6, f7, f8, f9, f10, f12, f13, f14]
set_option maxRecDepth 100000 in
set_option maxHeartbeats 4000000 in
theorem play_take_no (hc : c < 18446744073709551616) (hq : q < 18446744073709551616) (ht : t < 18446744073709551616) (hm : max s c = m) (hv : (m + q) % 18446744073709551616 = v) (h0 : ¬ t = 0) (h1 : t < v) :
    ∃ pl, plays 40 10 [[s]] [] [[(takeCode c q t, [])]] = some pl ∧ pl.ws = [[s]] ∧ pl.trace = [(0, 1, 0)] ∧ pl.ths.map (·.ans) = [[(true, [0, 0])]] := by
  have e0 : W64 = 18446744073709551616 := W64_eq
  obtain ⟨C, hC⟩ : ∃ C, C = [(takeCode c q t, ([] : List Nat))] := ⟨_, rfl⟩
  have hcl : C.length = 1 := by rw [hC]; rfl
  have f0 := ins_at C _ _ hC 0 ⟨1, 0, 10, 9, 0, 0, 0⟩ rfl
  have f1 := ins_at C _ _ hC 1 ⟨6, 0, 11, 0, 0, 0, c⟩ rfl
  have f2 := ins_at C _ _ hC 2 ⟨16, 0, 12, 10, 11, 0, 0⟩ rfl
  have f3 := ins_at C _ _ hC 3 ⟨8, 0, 12, 12, 9, 0, q⟩ rfl
  have f4 := ins_at C _ _ hC 4 ⟨6, 0, 13, 0, 0, 0, t⟩ rfl
  have f5 := ins_at C _ _ hC 5 ⟨19, 0, 13, 9, 0, 0, 11⟩ rfl
  have f6 := ins_at C _ _ hC 6 ⟨20, 0, 13, 12, 0, 0, 11⟩ rfl
  have f11 := ins_at C _ _ hC 11 ⟨6, 0, 0, 0, 0, 0, 0⟩ rfl
  have f12 := ins_at C _ _ hC 12 ⟨22, 0, 9, 0, 0, 0, 0⟩ rfl
  have f13 := ins_at C _ _ hC 13 ⟨22, 0, 0, 0, 0, 0, 0⟩ rfl
  have f14 := ins_at C _ _ hC 14 Ins.fin rfl
  rw [← hC]
  clear hC
  simp (config := { maxSteps := 1000000 }) [plays, Ins.fin, Pl.starts, Th.fresh, Th.on, Th.begun, isOp, Pl.byOrder, Pl.rounds, Pl.round, Pl.over, Pl.turn, Th.op, Th.does, Ins.fit, Th.place, reg, wordAt, setWord, Th.own, Ins.known, Th.told, mz.own, Cs.put, Cs.go, Th.finish, e0, hcl, hc, hq, ht, hm, hv, h0, h1, f0, f1, f2, f3, f4, f5, f6, f11, f12, f13, f14]
set_option maxRecDepth 100000 in
set_option maxHeartbeats 4000000 in
theorem play_take_none (hc : c < 18446744073709551616) :
    ∃ pl, plays 40 10 [[s]] [] [[(takeCode c 0 0, [])]] = some pl ∧ pl.ws = [[s]] ∧ pl.trace = [(0, 1, 0)] ∧ pl.ths.map (·.ans) = [[(true, [0, 0])]] := by
  have e0 : W64 = 18446744073709551616 := W64_eq
  obtain ⟨C, hC⟩ : ∃ C, C = [(takeCode c 0 0, ([] : List Nat))] := ⟨_, rfl⟩
  have hcl : C.length = 1 := by rw [hC]; rfl
  have f0 := ins_at C _ _ hC 0 ⟨1, 0, 10, 9, 0, 0, 0⟩ rfl
  have f1 := ins_at C _ _ hC 1 ⟨6, 0, 11, 0, 0, 0, c⟩ rfl
  have f2 := ins_at C _ _ hC 2 ⟨16, 0, 12, 10, 11, 0, 0⟩ rfl
  have f3 := ins_at C _ _ hC 3 ⟨8, 0, 12, 12, 9, 0, 0⟩ rfl
  have f4 := ins_at C _ _ hC 4 ⟨6, 0, 13, 0, 0, 0, 0⟩ rfl
  have f5 := ins_at C _ _ hC 5 ⟨19, 0, 13, 9, 0, 0, 11⟩ rfl
  have f11 := ins_at C _ _ hC 11 ⟨6, 0, 0, 0, 0, 0, 0⟩ rfl
  have f12 := ins_at C _ _ hC 12 ⟨22, 0, 9, 0, 0, 0, 0⟩ rfl
  have f13 := ins_at C _ _ hC 13 ⟨22, 0, 0, 0, 0, 0, 0⟩ rfl
  have f14 := ins_at C _ _ hC 14 Ins.fin rfl
  rw [← hC]
  clear hC
  simp (config := { maxSteps := 1000000 }) [plays, Ins.fin, Pl.starts, Th.fresh, Th.on, Th.begun, isOp, Pl.byOrder, Pl.rounds, Pl.round, Pl.over, Pl.turn, Th.op, Th.does, Ins.fit, Th.place, reg, wordAt, setWord, Th.own, Ins.known, Th.told, mz.own, Cs.put, Cs.go, Th.finish, e0, hcl, hc, f0, f1, f2, f3, f4, f5, f11, f12, f13, f14]
set_option maxRecDepth 100000 in
set_option maxHeartbeats 4000000 in
theorem play_level_low (hc : c < 18446744073709551616) (hf : f < 18446744073709551616) (hd : d < 18446744073709551616) (hm : max s c = m) (ht : (c + f) % 18446744073709551616 = t) (h1 : t < m) :
    ∃ pl, plays 40 10 [[s]] [] [[(levelCode c f d, [])]] = some pl ∧ pl.ws = [[s]] ∧ pl.trace = [(0, 1, 0)] ∧ pl.ths.map (·.ans) = [[(true, [0, 0])]] := by
  have e0 : W64 = 18446744073709551616 := W64_eq
  obtain ⟨C, hC⟩ : ∃ C, C = [(levelCode c f d, ([] : List Nat))] := ⟨_, rfl⟩
  have hcl : C.length = 1 := by rw [hC]; rfl
  have f0 := ins_at C _ _ hC 0 ⟨1, 0, 0, 9, 0, 0, 0⟩ rfl
  have f1 := ins_at C _ _ hC 1 ⟨6, 0, 1, 0, 0, 0, c⟩ rfl
  have f2 := ins_at C _ _ hC 2 ⟨16, 0, 0, 0, 1, 0, 0⟩ rfl
  have f3 := ins_at C _ _ hC 3 ⟨8, 0, 2, 1, 9, 0, f⟩ rfl
  have f4 := ins_at C _ _ hC 4 ⟨6, 0, 3, 0, 0, 0, 0⟩ rfl
  have f5 := ins_at C _ _ hC 5 ⟨20, 0, 2, 0, 0, 0, 9⟩ rfl
  have f9 := ins_at C _ _ hC 9 ⟨22, 0, 9, 0, 0, 0, 0⟩ rfl
  have f10 := ins_at C _ _ hC 10 ⟨22, 0, 3, 0, 0, 0, 0⟩ rfl
  have f11 := ins_at C _ _ hC 11 Ins.fin rfl
  rw [← hC]
  clear hC
  simp (config := { maxSteps := 1000000 }) [plays, Ins.fin, Pl.starts, Th.fresh, Th.on, Th.begun, isOp, Pl.byOrder, Pl.rounds, Pl.round, Pl.over, Pl.turn, Th.op, Th.does, Ins.fit, Th.place, reg, wordAt, setWord, Th.own, Ins.known, Th.told, mz.own, Cs.put, Cs.go, Th.finish, e0, hcl, hc, hf, hd, hm, ht, h1, f0, f1, f2, f3, f4, f5, f9, f10, f11]
set_option maxRecDepth 100000 in
set_option maxHeartbeats 4000000 in
theorem play_level (hc : c < 18446744073709551616) (hf : f < 18446744073709551616) (hd : d < 18446744073709551616) (hm : max s c = m) (ht : (c + f) % 18446744073709551616 = t) (h1 : ¬ t < m) (hr : (t + (18446744073709551616 - m)) % 18446744073709551616 = r) (h0 : ¬ d = 0) :
    ∃ pl, plays 40 10 [[s]] [] [[(levelCode c f d, [])]] = some pl ∧ pl.ws = [[s]] ∧ pl.trace = [(0, 1, 0)] ∧ pl.ths.map (·.ans) = [[(true, [0, r / d])]] := by
  have e0 : W64 = 18446744073709551616 := W64_eq
  obtain ⟨C, hC⟩ : ∃ C, C = [(levelCode c f d, ([] : List Nat))] := ⟨_, rfl⟩
  have hcl : C.length = 1 := by rw [hC]; rfl
  have f0 := ins_at C _ _ hC 0 ⟨1, 0, 0, 9, 0, 0, 0⟩ rfl
  have f1 := ins_at C _ _ hC 1 ⟨6, 0, 1, 0, 0, 0, c⟩ rfl
  have f2 := ins_at C _ _ hC 2 ⟨16, 0, 0, 0, 1, 0, 0⟩ rfl
  have f3 := ins_at C _ _ hC 3 ⟨8, 0, 2, 1, 9, 0, f⟩ rfl
  have f4 := ins_at C _ _ hC 4 ⟨6, 0, 3, 0, 0, 0, 0⟩ rfl
  have f5 := ins_at C _ _ hC 5 ⟨20, 0, 2, 0, 0, 0, 9⟩ rfl
  have f6 := ins_at C _ _ hC 6 ⟨9, 0, 2, 2, 0, 0, 0⟩ rfl
  have f7 := ins_at C _ _ hC 7 ⟨6, 0, 4, 0, 0, 0, d⟩ rfl
  have f8 := ins_at C _ _ hC 8 ⟨11, 0, 3, 2, 4, 0, 0⟩ rfl
  have f9 := ins_at C _ _ hC 9 ⟨22, 0, 9, 0, 0, 0, 0⟩ rfl
  have f10 := ins_at C _ _ hC 10 ⟨22, 0, 3, 0, 0, 0, 0⟩ rfl
  have f11 := ins_at C _ _ hC 11 Ins.fin rfl
  rw [← hC]
  clear hC
  simp (config := { maxSteps := 1000000 }) [plays, Ins.fin, Pl.starts, Th.fresh, Th.on, Th.begun, isOp, Pl.byOrder, Pl.rounds, Pl.round, Pl.over, Pl.turn, Th.op, Th.does, Ins.fit, Th.place, reg, wordAt, setWord, Th.own, Ins.known, Th.told, mz.own, Cs.put, Cs.go, Th.finish, e0, hcl, hc, hf, hd, hm, ht, h1, hr, h0, f0, f1, f2, f3, f4, f5, f6, f7, f8, f9, f10, f11]
set_option maxRecDepth 100000 in
set_option maxHeartbeats 4000000 in
theorem play_state  :
    ∃ pl, plays 40 10 [[s]] [] [[(stateCode, [])]] = some pl ∧ pl.ws = [[s]] ∧ pl.trace = [(0, 1, 0)] ∧ pl.ths.map (·.ans) = [[(true, [0, s])]] := by
  have e0 : W64 = 18446744073709551616 := W64_eq
  obtain ⟨C, hC⟩ : ∃ C, C = [(stateCode, ([] : List Nat))] := ⟨_, rfl⟩
  have hcl : C.length = 1 := by rw [hC]; rfl
  have f0 := ins_at C _ _ hC 0 ⟨1, 0, 0, 9, 0, 0, 0⟩ rfl
  have f1 := ins_at C _ _ hC 1 ⟨22, 0, 9, 0, 0, 0, 0⟩ rfl
  have f2 := ins_at C _ _ hC 2 ⟨22, 0, 0, 0, 0, 0, 0⟩ rfl
  have f3 := ins_at C _ _ hC 3 Ins.fin rfl
  rw [← hC]
  clear hC
  simp (config := { maxSteps := 1000000 }) [plays, Ins.fin, Pl.starts, Th.fresh, Th.on, Th.begun, isOp, Pl.byOrder, Pl.rounds, Pl.round, Pl.over, Pl.turn, Th.op, Th.does, Ins.fit, Th.place, reg, wordAt, setWord, Th.own, Ins.known, Th.told, mz.own, Cs.put, Cs.go, Th.finish, e0, hcl, f0, f1, f2, f3]
set_option maxRecDepth 100000 in
set_option maxHeartbeats 4000000 in
theorem play_late  :
    ∃ pl, plays 40 10 [[s]] [] [[(lateCode, [])]] = some pl ∧ pl.ws = [[s]] ∧ pl.trace = [] ∧ pl.ths.map (·.ans) = [[(true, [5, 0])]] := by
  have e0 : W64 = 18446744073709551616 := W64_eq
  obtain ⟨C, hC⟩ : ∃ C, C = [(lateCode, ([] : List Nat))] := ⟨_, rfl⟩
  have hcl : C.length = 1 := by rw [hC]; rfl
  have f0 := ins_at C _ _ hC 0 ⟨6, 0, 0, 0, 0, 0, 5⟩ rfl
  have f1 := ins_at C _ _ hC 1 ⟨22, 0, 0, 0, 0, 0, 0⟩ rfl
  have f2 := ins_at C _ _ hC 2 ⟨22, 0, 9, 0, 0, 0, 0⟩ rfl
  have f3 := ins_at C _ _ hC 3 Ins.fin rfl
  rw [← hC]
  clear hC
  simp (config := { maxSteps := 1000000 }) [plays, Ins.fin, Pl.starts, Th.fresh, Th.on, Th.begun, isOp, Pl.byOrder, Pl.rounds, Pl.round, Pl.over, Pl.turn, Th.op, Th.does, Ins.fit, Th.place, reg, wordAt, setWord, Th.own, Ins.known, Th.told, mz.own, Cs.put, Cs.go, Th.finish, e0, hcl, f0, f1, f2, f3]
end
end Go.Proofs.Ytgenblefbddilaa.rf13
