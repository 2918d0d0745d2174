/-
  patchbayref03: its codes, and the plain machine at them.
-/
import Derived.Test.YtakpfkfhbeobeaaMzQ
set_option linter.unusedSimpArgs false
set_option linter.unusedVariables false
namespace Go.Proofs.Ytakpfkfhbeobeaa.rf3
open Go.Proofs.Ytakpfkfhbeobeaa.mz
def getCode (on : Nat) : List Ins := [⟨1, on, 10, 9, 0, 0, 0⟩, ⟨22, 0, 10, 0, 0, 0, 0⟩]
def addCode (v : Nat) : List Ins := [⟨6, 0, 13, 0, 0, 0, v⟩, ⟨3, 0, 10, 9, 13, 0, 0⟩, ⟨22, 0, 10, 0, 0, 0, 0⟩]
def upCode (v b : Nat) : List Ins := [⟨6, 0, 13, 0, 0, 0, v⟩, ⟨6, 0, 14, 0, 0, 0, b⟩, ⟨1, 0, 10, 9, 0, 0, 0⟩, ⟨20, 0, 14, 13, 0, 0, 12⟩, ⟨9, 0, 15, 14, 13, 0, 0⟩, ⟨20, 0, 15, 10, 0, 0, 12⟩, ⟨8, 0, 11, 10, 13, 0, 0⟩, ⟨5, 0, 12, 9, 10, 11, 0⟩, ⟨19, 0, 12, 9, 0, 0, 2⟩,
  ⟨22, 0, 11, 0, 0, 0, 0⟩, ⟨22, 0, 12, 0, 0, 0, 0⟩, ⟨23, 0, 0, 0, 0, 0, 0⟩, ⟨22, 0, 10, 0, 0, 0, 0⟩, ⟨22, 0, 9, 0, 0, 0, 0⟩]
def downCode (v : Nat) : List Ins := [⟨6, 0, 13, 0, 0, 0, v⟩, ⟨1, 0, 10, 9, 0, 0, 0⟩, ⟨20, 0, 10, 13, 0, 0, 9⟩, ⟨9, 0, 11, 10, 13, 0, 0⟩, ⟨5, 0, 12, 9, 10, 11, 0⟩, ⟨19, 0, 12, 9, 0, 0, 1⟩, ⟨22, 0, 11, 0, 0, 0, 0⟩, ⟨22, 0, 12, 0, 0, 0, 0⟩, ⟨23, 0, 0, 0, 0, 0, 0⟩, ⟨22, 0, 10, 0, 0, 0, 0⟩, ⟨22, 0, 9, 0, 0, 0, 0⟩]
def maxCode (v : Nat) : List Ins := [⟨6, 0, 13, 0, 0, 0, v⟩, ⟨1, 0, 10, 9, 0, 0, 0⟩, ⟨20, 0, 10, 13, 0, 0, 5⟩, ⟨22, 0, 9, 0, 0, 0, 0⟩, ⟨23, 0, 0, 0, 0, 0, 0⟩, ⟨5, 0, 12, 9, 10, 13, 0⟩, ⟨19, 0, 12, 9, 0, 0, 1⟩, ⟨22, 0, 12, 0, 0, 0, 0⟩]
def turnCode (v : Nat) : List Ins := [⟨6, 0, 13, 0, 0, 0, v⟩, ⟨6, 0, 11, 0, 0, 0, 1⟩, ⟨4, 1, 10, 9, 13, 0, 0⟩, ⟨19, 0, 10, 13, 0, 0, 6⟩, ⟨22, 0, 11, 0, 0, 0, 0⟩, ⟨23, 0, 0, 0, 0, 0, 0⟩, ⟨22, 0, 9, 0, 0, 0, 0⟩]
def getBox : List Ins := [⟨1, 2, 10, 9, 0, 0, 0⟩, ⟨14, 0, 11, 10, 0, 0, 32⟩, ⟨15, 0, 11, 11, 0, 0, 32⟩, ⟨22, 0, 11, 0, 0, 0, 0⟩, ⟨15, 0, 11, 10, 0, 0, 32⟩, ⟨22, 0, 11, 0, 0, 0, 0⟩]
def putBox (v : Nat) : List Ins := [⟨1, 2, 10, 9, 0, 0, 0⟩, ⟨15, 0, 13, 10, 0, 0, 32⟩, ⟨8, 0, 13, 13, 9, 0, 1⟩, ⟨14, 0, 11, 13, 0, 0, 32⟩, ⟨8, 0, 11, 11, 9, 0, v⟩, ⟨5, 2, 12, 9, 10, 11, 0⟩, ⟨19, 0, 12, 9, 0, 0, 0⟩, ⟨22, 0, 13, 0, 0, 0, 0⟩]
def tryBox (m v : Nat) : List Ins := [⟨6, 0, 14, 0, 0, 0, m⟩, ⟨1, 2, 10, 9, 0, 0, 0⟩, ⟨15, 0, 13, 10, 0, 0, 32⟩, ⟨19, 0, 13, 14, 0, 0, 6⟩, ⟨22, 0, 9, 0, 0, 0, 0⟩, ⟨23, 0, 0, 0, 0, 0, 0⟩, ⟨8, 0, 13, 13, 9, 0, 1⟩, ⟨14, 0, 11, 13, 0, 0, 32⟩, ⟨8, 0, 11, 11, 9, 0, v⟩, ⟨5, 2, 12, 9, 10, 11, 0⟩, ⟨22, 0, 12, 0, 0, 0, 0⟩]
theorem ins_at (C : List (List Ins × List Nat)) (c : List Ins) (d : List Nat) (hC : C = [(c, d)]) (k : Nat) (x : Ins) (h : c.getD k Ins.fin = x) (rs : List Nat) (ans : List (Bool × List Nat)) (ov : Bool) : Th.ins ⟨C, 0, k, rs, ans, ov⟩ = x := by
  subst hC; exact h
theorem box_b2 {n x : Nat} (hx : x < 4294967296) : (n * 4294967296 + x) * 4294967296 % 18446744073709551616 / 4294967296 = x := by
  have e : (n * 4294967296 + x) * 4294967296 = x * 4294967296 + 18446744073709551616 * n := by rw [Nat.add_mul, Nat.mul_assoc, show (4294967296 : Nat) * 4294967296 = 18446744073709551616 from rfl]; rw [Nat.add_comm, Nat.mul_comm n]
  rw [e, Nat.add_mul_mod_self_left, Nat.mod_eq_of_lt (by omega), Nat.mul_div_cancel _ (by omega)]
/-- a box's word -/
@[irreducible] def box (n x : Nat) : Nat := n * 4294967296 + x
theorem box_num {n x : Nat} (hx : x < 4294967296) : box n x / 4294967296 = n := by unfold box; omega
theorem box_val {n x : Nat} (hx : x < 4294967296) : box n x * 4294967296 % 18446744073709551616 / 4294967296 = x := by unfold box; exact box_b2 hx
theorem box_lt {n x : Nat} (hx : x < 4294967296) (hn : n < 4294967290) : box n x < 18446744073709551616 := by unfold box; omega
theorem box_put {n v : Nat} (hv : v < 4294967296) (hn : n < 4294967290) : ((n + 1) * 4294967296 % 18446744073709551616 + v) % 18446744073709551616 = box (n + 1) v := by
  unfold box; rw [Nat.mod_eq_of_lt (show (n + 1) * 4294967296 < _ by omega), Nat.mod_eq_of_lt (by omega)]
theorem num_lt {n : Nat} (hn : n < 4294967290) : (n + 1) % 18446744073709551616 = n + 1 := Nat.mod_eq_of_lt (by omega)
section
variable {c f x n v b m q : Nat}
set_option maxRecDepth 100000 in
set_option maxHeartbeats 4000000 in
theorem play_get0 (hc : c < 18446744073709551616) (hf : f < 2) (hx : x < 4294967296) (hn : n < 4294967290)  :
    ∃ pl, plays 40 10 [[c], [f], [box n x]] [] [[(getCode 0, [])]] = some pl ∧ pl.ws = [[c], [f], [box n x]] ∧ pl.trace = [(0, 1, 0)] ∧ pl.ths.map (·.ans) = [[(true, [c])]] := by
  have e0 : W64 = 18446744073709551616 := W64_eq
  have hf2 : f < 18446744073709551616 := by omega
  have y0 := box_lt hx hn
  have y1 := box_num (n := n) hx
  have y2 := box_val (n := n) hx
  have y3 := num_lt hn
  clear hf hx hn
  generalize box n x = y at *
  obtain ⟨C, hC⟩ : ∃ C, C = [(getCode 0, ([] : List Nat))] := ⟨_, rfl⟩
  have hcl : C.length = 1 := by rw [hC]; rfl
  have f0 := ins_at C _ _ hC 0 _ rfl
  have f1 := ins_at C _ _ hC 1 _ rfl
  have f2 := ins_at C _ _ hC 2 _ rfl
  rw [← hC]
  clear hC
  simp (config := { maxSteps := 1000000 }) [plays, getCode, addCode, upCode, downCode, maxCode, turnCode, getBox, putBox, tryBox, Ins.fin, Pl.starts, Th.fresh, Th.on, Th.begun, isOp, Pl.byOrder, Pl.rounds, Pl.round, Pl.over, Pl.turn, Th.op, Th.does, Ins.fit, Th.place, reg, wordAt, setWord, Th.own, Ins.known, Th.told, mz.own, Cs.put, Cs.go, Th.finish, e0, hcl, hc, f0, f1, f2]
set_option maxRecDepth 100000 in
set_option maxHeartbeats 4000000 in
theorem play_get1 (hc : c < 18446744073709551616) (hf : f < 2) (hx : x < 4294967296) (hn : n < 4294967290)  :
    ∃ pl, plays 40 10 [[c], [f], [box n x]] [] [[(getCode 1, [])]] = some pl ∧ pl.ws = [[c], [f], [box n x]] ∧ pl.trace = [(0, 1, 0)] ∧ pl.ths.map (·.ans) = [[(true, [f])]] := by
  have e0 : W64 = 18446744073709551616 := W64_eq
  have hf2 : f < 18446744073709551616 := by omega
  have y0 := box_lt hx hn
  have y1 := box_num (n := n) hx
  have y2 := box_val (n := n) hx
  have y3 := num_lt hn
  clear hf hx hn
  generalize box n x = y at *
  obtain ⟨C, hC⟩ : ∃ C, C = [(getCode 1, ([] : List Nat))] := ⟨_, rfl⟩
  have hcl : C.length = 1 := by rw [hC]; rfl
  have f0 := ins_at C _ _ hC 0 _ rfl
  have f1 := ins_at C _ _ hC 1 _ rfl
  have f2 := ins_at C _ _ hC 2 _ rfl
  rw [← hC]
  clear hC
  simp (config := { maxSteps := 1000000 }) [plays, getCode, addCode, upCode, downCode, maxCode, turnCode, getBox, putBox, tryBox, Ins.fin, Pl.starts, Th.fresh, Th.on, Th.begun, isOp, Pl.byOrder, Pl.rounds, Pl.round, Pl.over, Pl.turn, Th.op, Th.does, Ins.fit, Th.place, reg, wordAt, setWord, Th.own, Ins.known, Th.told, mz.own, Cs.put, Cs.go, Th.finish, e0, hcl, hc, f0, f1, f2]
set_option maxRecDepth 100000 in
set_option maxHeartbeats 4000000 in
theorem play_add (hc : c < 18446744073709551616) (hf : f < 2) (hx : x < 4294967296) (hn : n < 4294967290) (hv : v < 18446744073709551616) :
    ∃ pl, plays 40 10 [[c], [f], [box n x]] [] [[(addCode v, [])]] = some pl ∧ pl.ws = [[(c + v) % 18446744073709551616], [f], [box n x]] ∧ pl.trace = [(0, 3, 0)] ∧ pl.ths.map (·.ans) = [[(true, [(c + v) % 18446744073709551616])]] := by
  have e0 : W64 = 18446744073709551616 := W64_eq
  have hf2 : f < 18446744073709551616 := by omega
  have y0 := box_lt hx hn
  have y1 := box_num (n := n) hx
  have y2 := box_val (n := n) hx
  have y3 := num_lt hn
  clear hf hx hn
  generalize box n x = y at *
  obtain ⟨C, hC⟩ : ∃ C, C = [(addCode v, ([] : List Nat))] := ⟨_, rfl⟩
  have hcl : C.length = 1 := by rw [hC]; rfl
  have f0 := ins_at C _ _ hC 0 _ rfl
  have f1 := ins_at C _ _ hC 1 _ rfl
  have f2 := ins_at C _ _ hC 2 _ rfl
  have f3 := ins_at C _ _ hC 3 _ rfl
  rw [← hC]
  clear hC
  simp (config := { maxSteps := 1000000 }) [plays, getCode, addCode, upCode, downCode, maxCode, turnCode, getBox, putBox, tryBox, Ins.fin, Pl.starts, Th.fresh, Th.on, Th.begun, isOp, Pl.byOrder, Pl.rounds, Pl.round, Pl.over, Pl.turn, Th.op, Th.does, Ins.fit, Th.place, reg, wordAt, setWord, Th.own, Ins.known, Th.told, mz.own, Cs.put, Cs.go, Th.finish, e0, hcl, hc, hv, f0, f1, f2, f3]
set_option maxRecDepth 100000 in
set_option maxHeartbeats 4000000 in
theorem play_up_yes (hc : c < 18446744073709551616) (hf : f < 2) (hx : x < 4294967296) (hn : n < 4294967290) (hv : v < 18446744073709551616) (hb : b < 18446744073709551616) (h1 : ¬ b < v) (h2 : ¬ (b + (18446744073709551616 - v)) % 18446744073709551616 < c) :
    ∃ pl, plays 40 10 [[c], [f], [box n x]] [] [[(upCode v b, [])]] = some pl ∧ pl.ws = [[(c + v) % 18446744073709551616], [f], [box n x]] ∧ pl.trace = [(0, 1, 0), (0, 5, 0)] ∧ pl.ths.map (·.ans) = [[(true, [(c + v) % 18446744073709551616, 1])]] := by
  have e0 : W64 = 18446744073709551616 := W64_eq
  have hf2 : f < 18446744073709551616 := by omega
  have y0 := box_lt hx hn
  have y1 := box_num (n := n) hx
  have y2 := box_val (n := n) hx
  have y3 := num_lt hn
  clear hf hx hn
  generalize box n x = y at *
  obtain ⟨C, hC⟩ : ∃ C, C = [(upCode v b, ([] : List Nat))] := ⟨_, rfl⟩
  have hcl : C.length = 1 := by rw [hC]; rfl
  have f0 := ins_at C _ _ hC 0 _ rfl
  have f1 := ins_at C _ _ hC 1 _ rfl
  have f2 := ins_at C _ _ hC 2 _ rfl
  have f3 := ins_at C _ _ hC 3 _ rfl
  have f4 := ins_at C _ _ hC 4 _ rfl
  have f5 := ins_at C _ _ hC 5 _ rfl
  have f6 := ins_at C _ _ hC 6 _ rfl
  have f7 := ins_at C _ _ hC 7 _ rfl
  have f8 := ins_at C _ _ hC 8 _ rfl
  have f9 := ins_at C _ _ hC 9 _ rfl
  have f10 := ins_at C _ _ hC 10 _ rfl
  have f11 := ins_at C _ _ hC 11 _ rfl
  rw [← hC]
  clear hC
  simp (config := { maxSteps := 1000000 }) [plays, getCode, addCode, upCode, downCode, maxCode, turnCode, getBox, putBox, tryBox, Ins.fin, Pl.starts, Th.fresh, Th.on, Th.begun, isOp, Pl.byOrder, Pl.rounds, Pl.round, Pl.over, Pl.turn, Th.op, Th.does, Ins.fit, Th.place, reg, wordAt, setWord, Th.own, Ins.known, Th.told, mz.own, Cs.put, Cs.go, Th.finish, e0, hcl, hc, hv, hb, h1, h2, f0, f1, f2, f3, f4, f5, f6, f7, f8, f9, f10, f11]
set_option maxRecDepth 100000 in
set_option maxHeartbeats 4000000 in
theorem play_up_no1 (hc : c < 18446744073709551616) (hf : f < 2) (hx : x < 4294967296) (hn : n < 4294967290) (hv : v < 18446744073709551616) (hb : b < 18446744073709551616) (h1 : b < v) :
    ∃ pl, plays 40 10 [[c], [f], [box n x]] [] [[(upCode v b, [])]] = some pl ∧ pl.ws = [[c], [f], [box n x]] ∧ pl.trace = [(0, 1, 0)] ∧ pl.ths.map (·.ans) = [[(true, [c, 0])]] := by
  have e0 : W64 = 18446744073709551616 := W64_eq
  have hf2 : f < 18446744073709551616 := by omega
  have y0 := box_lt hx hn
  have y1 := box_num (n := n) hx
  have y2 := box_val (n := n) hx
  have y3 := num_lt hn
  clear hf hx hn
  generalize box n x = y at *
  obtain ⟨C, hC⟩ : ∃ C, C = [(upCode v b, ([] : List Nat))] := ⟨_, rfl⟩
  have hcl : C.length = 1 := by rw [hC]; rfl
  have f0 := ins_at C _ _ hC 0 _ rfl
  have f1 := ins_at C _ _ hC 1 _ rfl
  have f2 := ins_at C _ _ hC 2 _ rfl
  have f3 := ins_at C _ _ hC 3 _ rfl
  have f12 := ins_at C _ _ hC 12 _ rfl
  have f13 := ins_at C _ _ hC 13 _ rfl
  have f14 := ins_at C _ _ hC 14 _ rfl
  rw [← hC]
  clear hC
  simp (config := { maxSteps := 1000000 }) [plays, getCode, addCode, upCode, downCode, maxCode, turnCode, getBox, putBox, tryBox, Ins.fin, Pl.starts, Th.fresh, Th.on, Th.begun, isOp, Pl.byOrder, Pl.rounds, Pl.round, Pl.over, Pl.turn, Th.op, Th.does, Ins.fit, Th.place, reg, wordAt, setWord, Th.own, Ins.known, Th.told, mz.own, Cs.put, Cs.go, Th.finish, e0, hcl, hc, hv, hb, h1, f0, f1, f2, f3, f12, f13, f14]
set_option maxRecDepth 100000 in
set_option maxHeartbeats 4000000 in
theorem play_up_no2 (hc : c < 18446744073709551616) (hf : f < 2) (hx : x < 4294967296) (hn : n < 4294967290) (hv : v < 18446744073709551616) (hb : b < 18446744073709551616) (h1 : ¬ b < v) (h2 : (b + (18446744073709551616 - v)) % 18446744073709551616 < c) :
    ∃ pl, plays 40 10 [[c], [f], [box n x]] [] [[(upCode v b, [])]] = some pl ∧ pl.ws = [[c], [f], [box n x]] ∧ pl.trace = [(0, 1, 0)] ∧ pl.ths.map (·.ans) = [[(true, [c, 0])]] := by
  have e0 : W64 = 18446744073709551616 := W64_eq
  have hf2 : f < 18446744073709551616 := by omega
  have y0 := box_lt hx hn
  have y1 := box_num (n := n) hx
  have y2 := box_val (n := n) hx
  have y3 := num_lt hn
  clear hf hx hn
  generalize box n x = y at *
  obtain ⟨C, hC⟩ : ∃ C, C = [(upCode v b, ([] : List Nat))] := ⟨_, rfl⟩
  have hcl : C.length = 1 := by rw [hC]; rfl
  have f0 := ins_at C _ _ hC 0 _ rfl
  have f1 := ins_at C _ _ hC 1 _ rfl
  have f2 := ins_at C _ _ hC 2 _ rfl
  have f3 := ins_at C _ _ hC 3 _ rfl
  have f4 := ins_at C _ _ hC 4 _ rfl
  have f5 := ins_at C _ _ hC 5 _ rfl
  have f12 := ins_at C _ _ hC 12 _ rfl
  have f13 := ins_at C _ _ hC 13 _ rfl
  have f14 := ins_at C _ _ hC 14 _ rfl
  rw [← hC]
  clear hC
  simp (config := { maxSteps := 1000000 }) [plays, getCode, addCode, upCode, downCode, maxCode, turnCode, getBox, putBox, tryBox, Ins.fin, Pl.starts, Th.fresh, Th.on, Th.begun, isOp, Pl.byOrder, Pl.rounds, Pl.round, Pl.over, Pl.turn, Th.op, Th.does, Ins.fit, Th.place, reg, wordAt, setWord, Th.own, Ins.known, Th.told, mz.own, Cs.put, Cs.go, Th.finish, e0, hcl, hc, hv, hb, h1, h2, f0, f1, f2, f3, f4, f5, f12, f13, f14]
set_option maxRecDepth 100000 in
set_option maxHeartbeats 4000000 in
theorem play_down_yes (hc : c < 18446744073709551616) (hf : f < 2) (hx : x < 4294967296) (hn : n < 4294967290) (hv : v < 18446744073709551616) (h1 : ¬ c < v) :
    ∃ pl, plays 40 10 [[c], [f], [box n x]] [] [[(downCode v, [])]] = some pl ∧ pl.ws = [[(c + (18446744073709551616 - v)) % 18446744073709551616], [f], [box n x]] ∧ pl.trace = [(0, 1, 0), (0, 5, 0)] ∧ pl.ths.map (·.ans) = [[(true, [(c + (18446744073709551616 - v)) % 18446744073709551616, 1])]] := by
  have e0 : W64 = 18446744073709551616 := W64_eq
  have hf2 : f < 18446744073709551616 := by omega
  have y0 := box_lt hx hn
  have y1 := box_num (n := n) hx
  have y2 := box_val (n := n) hx
  have y3 := num_lt hn
  clear hf hx hn
  generalize box n x = y at *
  obtain ⟨C, hC⟩ : ∃ C, C = [(downCode v, ([] : List Nat))] := ⟨_, rfl⟩
  have hcl : C.length = 1 := by rw [hC]; rfl
  have f0 := ins_at C _ _ hC 0 _ rfl
  have f1 := ins_at C _ _ hC 1 _ rfl
  have f2 := ins_at C _ _ hC 2 _ rfl
  have f3 := ins_at C _ _ hC 3 _ rfl
  have f4 := ins_at C _ _ hC 4 _ rfl
  have f5 := ins_at C _ _ hC 5 _ rfl
  have f6 := ins_at C _ _ hC 6 _ rfl
  have f7 := ins_at C _ _ hC 7 _ rfl
  have f8 := ins_at C _ _ hC 8 _ rfl
  rw [← hC]
  clear hC
  simp (config := { maxSteps := 1000000 }) [plays, getCode, addCode, upCode, downCode, maxCode, turnCode, getBox, putBox, tryBox, Ins.fin, Pl.starts, Th.fresh, Th.on, Th.begun, isOp, Pl.byOrder, Pl.rounds, Pl.round, Pl.over, Pl.turn, Th.op, Th.does, Ins.fit, Th.place, reg, wordAt, setWord, Th.own, Ins.known, Th.told, mz.own, Cs.put, Cs.go, Th.finish, e0, hcl, hc, hv, h1, f0, f1, f2, f3, f4, f5, f6, f7, f8]
set_option maxRecDepth 100000 in
set_option maxHeartbeats 4000000 in
theorem play_down_no (hc : c < 18446744073709551616) (hf : f < 2) (hx : x < 4294967296) (hn : n < 4294967290) (hv : v < 18446744073709551616) (h1 : c < v) :
    ∃ pl, plays 40 10 [[c], [f], [box n x]] [] [[(downCode v, [])]] = some pl ∧ pl.ws = [[c], [f], [box n x]] ∧ pl.trace = [(0, 1, 0)] ∧ pl.ths.map (·.ans) = [[(true, [c, 0])]] := by
  have e0 : W64 = 18446744073709551616 := W64_eq
  have hf2 : f < 18446744073709551616 := by omega
  have y0 := box_lt hx hn
  have y1 := box_num (n := n) hx
  have y2 := box_val (n := n) hx
  have y3 := num_lt hn
  clear hf hx hn
  generalize box n x = y at *
  obtain ⟨C, hC⟩ : ∃ C, C = [(downCode v, ([] : List Nat))] := ⟨_, rfl⟩
  have hcl : C.length = 1 := by rw [hC]; rfl
  have f0 := ins_at C _ _ hC 0 _ rfl
  have f1 := ins_at C _ _ hC 1 _ rfl
  have f2 := ins_at C _ _ hC 2 _ rfl
  have f9 := ins_at C _ _ hC 9 _ rfl
  have f10 := ins_at C _ _ hC 10 _ rfl
  have f11 := ins_at C _ _ hC 11 _ rfl
  rw [← hC]
  clear hC
  simp (config := { maxSteps := 1000000 }) [plays, getCode, addCode, upCode, downCode, maxCode, turnCode, getBox, putBox, tryBox, Ins.fin, Pl.starts, Th.fresh, Th.on, Th.begun, isOp, Pl.byOrder, Pl.rounds, Pl.round, Pl.over, Pl.turn, Th.op, Th.does, Ins.fit, Th.place, reg, wordAt, setWord, Th.own, Ins.known, Th.told, mz.own, Cs.put, Cs.go, Th.finish, e0, hcl, hc, hv, h1, f0, f1, f2, f9, f10, f11]
set_option maxRecDepth 100000 in
set_option maxHeartbeats 4000000 in
theorem play_max_yes (hc : c < 18446744073709551616) (hf : f < 2) (hx : x < 4294967296) (hn : n < 4294967290) (hv : v < 18446744073709551616) (h1 : c < v) :
    ∃ pl, plays 40 10 [[c], [f], [box n x]] [] [[(maxCode v, [])]] = some pl ∧ pl.ws = [[v], [f], [box n x]] ∧ pl.trace = [(0, 1, 0), (0, 5, 0)] ∧ pl.ths.map (·.ans) = [[(true, [1])]] := by
  have e0 : W64 = 18446744073709551616 := W64_eq
  have hf2 : f < 18446744073709551616 := by omega
  have y0 := box_lt hx hn
  have y1 := box_num (n := n) hx
  have y2 := box_val (n := n) hx
  have y3 := num_lt hn
  clear hf hx hn
  generalize box n x = y at *
  obtain ⟨C, hC⟩ : ∃ C, C = [(maxCode v, ([] : List Nat))] := ⟨_, rfl⟩
  have hcl : C.length = 1 := by rw [hC]; rfl
  have f0 := ins_at C _ _ hC 0 _ rfl
  have f1 := ins_at C _ _ hC 1 _ rfl
  have f2 := ins_at C _ _ hC 2 _ rfl
  have f5 := ins_at C _ _ hC 5 _ rfl
  have f6 := ins_at C _ _ hC 6 _ rfl
  have f7 := ins_at C _ _ hC 7 _ rfl
  have f8 := ins_at C _ _ hC 8 _ rfl
  rw [← hC]
  clear hC
  simp (config := { maxSteps := 1000000 }) [plays, getCode, addCode, upCode, downCode, maxCode, turnCode, getBox, putBox, tryBox, Ins.fin, Pl.starts, Th.fresh, Th.on, Th.begun, isOp, Pl.byOrder, Pl.rounds, Pl.round, Pl.over, Pl.turn, Th.op, Th.does, Ins.fit, Th.place, reg, wordAt, setWord, Th.own, Ins.known, Th.told, mz.own, Cs.put, Cs.go, Th.finish, e0, hcl, hc, hv, h1, f0, f1, f2, f5, f6, f7, f8]
set_option maxRecDepth 100000 in
set_option maxHeartbeats 4000000 in
theorem play_max_no (hc : c < 18446744073709551616) (hf : f < 2) (hx : x < 4294967296) (hn : n < 4294967290) (hv : v < 18446744073709551616) (h1 : ¬ c < v) :
    ∃ pl, plays 40 10 [[c], [f], [box n x]] [] [[(maxCode v, [])]] = some pl ∧ pl.ws = [[c], [f], [box n x]] ∧ pl.trace = [(0, 1, 0)] ∧ pl.ths.map (·.ans) = [[(true, [0])]] := by
  have e0 : W64 = 18446744073709551616 := W64_eq
  have hf2 : f < 18446744073709551616 := by omega
  have y0 := box_lt hx hn
  have y1 := box_num (n := n) hx
  have y2 := box_val (n := n) hx
  have y3 := num_lt hn
  clear hf hx hn
  generalize box n x = y at *
  obtain ⟨C, hC⟩ : ∃ C, C = [(maxCode v, ([] : List Nat))] := ⟨_, rfl⟩
  have hcl : C.length = 1 := by rw [hC]; rfl
  have f0 := ins_at C _ _ hC 0 _ rfl
  have f1 := ins_at C _ _ hC 1 _ rfl
  have f2 := ins_at C _ _ hC 2 _ rfl
  have f3 := ins_at C _ _ hC 3 _ rfl
  have f4 := ins_at C _ _ hC 4 _ rfl
  rw [← hC]
  clear hC
  simp (config := { maxSteps := 1000000 }) [plays, getCode, addCode, upCode, downCode, maxCode, turnCode, getBox, putBox, tryBox, Ins.fin, Pl.starts, Th.fresh, Th.on, Th.begun, isOp, Pl.byOrder, Pl.rounds, Pl.round, Pl.over, Pl.turn, Th.op, Th.does, Ins.fit, Th.place, reg, wordAt, setWord, Th.own, Ins.known, Th.told, mz.own, Cs.put, Cs.go, Th.finish, e0, hcl, hc, hv, h1, f0, f1, f2, f3, f4]
set_option maxRecDepth 100000 in
set_option maxHeartbeats 4000000 in
theorem play_turn_yes (hc : c < 18446744073709551616) (hf : f < 2) (hx : x < 4294967296) (hn : n < 4294967290) (hv : v < 2) (h1 : ¬ f = v) :
    ∃ pl, plays 40 10 [[c], [f], [box n x]] [] [[(turnCode v, [])]] = some pl ∧ pl.ws = [[c], [v], [box n x]] ∧ pl.trace = [(0, 4, 0)] ∧ pl.ths.map (·.ans) = [[(true, [1])]] := by
  have e0 : W64 = 18446744073709551616 := W64_eq
  have hf2 : f < 18446744073709551616 := by omega
  have y0 := box_lt hx hn
  have y1 := box_num (n := n) hx
  have y2 := box_val (n := n) hx
  have y3 := num_lt hn
  have hv2 : v < 18446744073709551616 := by omega
  clear hf hx hn
  generalize box n x = y at *
  obtain ⟨C, hC⟩ : ∃ C, C = [(turnCode v, ([] : List Nat))] := ⟨_, rfl⟩
  have hcl : C.length = 1 := by rw [hC]; rfl
  have f0 := ins_at C _ _ hC 0 _ rfl
  have f1 := ins_at C _ _ hC 1 _ rfl
  have f2 := ins_at C _ _ hC 2 _ rfl
  have f3 := ins_at C _ _ hC 3 _ rfl
  have f4 := ins_at C _ _ hC 4 _ rfl
  have f5 := ins_at C _ _ hC 5 _ rfl
  rw [← hC]
  clear hC
  simp (config := { maxSteps := 1000000 }) [plays, getCode, addCode, upCode, downCode, maxCode, turnCode, getBox, putBox, tryBox, Ins.fin, Pl.starts, Th.fresh, Th.on, Th.begun, isOp, Pl.byOrder, Pl.rounds, Pl.round, Pl.over, Pl.turn, Th.op, Th.does, Ins.fit, Th.place, reg, wordAt, setWord, Th.own, Ins.known, Th.told, mz.own, Cs.put, Cs.go, Th.finish, e0, hcl, hc, hv2, h1, f0, f1, f2, f3, f4, f5]
set_option maxRecDepth 100000 in
set_option maxHeartbeats 4000000 in
theorem play_turn_no (hc : c < 18446744073709551616) (hf : f < 2) (hx : x < 4294967296) (hn : n < 4294967290) (hv : v < 2) (h1 : f = v) :
    ∃ pl, plays 40 10 [[c], [f], [box n x]] [] [[(turnCode v, [])]] = some pl ∧ pl.ws = [[c], [v], [box n x]] ∧ pl.trace = [(0, 4, 0)] ∧ pl.ths.map (·.ans) = [[(true, [0])]] := by
  have e0 : W64 = 18446744073709551616 := W64_eq
  have hf2 : f < 18446744073709551616 := by omega
  have y0 := box_lt hx hn
  have y1 := box_num (n := n) hx
  have y2 := box_val (n := n) hx
  have y3 := num_lt hn
  have hv2 : v < 18446744073709551616 := by omega
  clear hf hx hn
  generalize box n x = y at *
  obtain ⟨C, hC⟩ : ∃ C, C = [(turnCode v, ([] : List Nat))] := ⟨_, rfl⟩
  have hcl : C.length = 1 := by rw [hC]; rfl
  have f0 := ins_at C _ _ hC 0 _ rfl
  have f1 := ins_at C _ _ hC 1 _ rfl
  have f2 := ins_at C _ _ hC 2 _ rfl
  have f3 := ins_at C _ _ hC 3 _ rfl
  have f6 := ins_at C _ _ hC 6 _ rfl
  have f7 := ins_at C _ _ hC 7 _ rfl
  rw [← hC]
  clear hC
  simp (config := { maxSteps := 1000000 }) [plays, getCode, addCode, upCode, downCode, maxCode, turnCode, getBox, putBox, tryBox, Ins.fin, Pl.starts, Th.fresh, Th.on, Th.begun, isOp, Pl.byOrder, Pl.rounds, Pl.round, Pl.over, Pl.turn, Th.op, Th.does, Ins.fit, Th.place, reg, wordAt, setWord, Th.own, Ins.known, Th.told, mz.own, Cs.put, Cs.go, Th.finish, e0, hcl, hc, hv2, h1, f0, f1, f2, f3, f6, f7]
set_option maxRecDepth 100000 in
set_option maxHeartbeats 4000000 in
theorem play_getBox (hc : c < 18446744073709551616) (hf : f < 2) (hx : x < 4294967296) (hn : n < 4294967290)  :
    ∃ pl, plays 40 10 [[c], [f], [box n x]] [] [[(getBox, [])]] = some pl ∧ pl.ws = [[c], [f], [box n x]] ∧ pl.trace = [(0, 1, 0)] ∧ pl.ths.map (·.ans) = [[(true, [x, n])]] := by
  have e0 : W64 = 18446744073709551616 := W64_eq
  have hf2 : f < 18446744073709551616 := by omega
  have y0 := box_lt hx hn
  have y1 := box_num (n := n) hx
  have y2 := box_val (n := n) hx
  have y3 := num_lt hn
  clear hf hx hn
  generalize box n x = y at *
  have hK : (2 : Nat) ^ 32 = 4294967296 := rfl
  obtain ⟨z, hz⟩ : ∃ z, y * 4294967296 % 18446744073709551616 = z := ⟨_, rfl⟩
  rw [hz] at y2
  generalize (4294967296 : Nat) = K at *
  obtain ⟨C, hC⟩ : ∃ C, C = [(getBox, ([] : List Nat))] := ⟨_, rfl⟩
  have hcl : C.length = 1 := by rw [hC]; rfl
  have f0 := ins_at C _ _ hC 0 _ rfl
  have f1 := ins_at C _ _ hC 1 _ rfl
  have f2 := ins_at C _ _ hC 2 _ rfl
  have f3 := ins_at C _ _ hC 3 _ rfl
  have f4 := ins_at C _ _ hC 4 _ rfl
  have f5 := ins_at C _ _ hC 5 _ rfl
  have f6 := ins_at C _ _ hC 6 _ rfl
  rw [← hC]
  clear hC
  simp (config := { maxSteps := 1000000 }) [-Nat.reducePow, hK, plays, getCode, addCode, upCode, downCode, maxCode, turnCode, getBox, putBox, tryBox, Ins.fin, Pl.starts, Th.fresh, Th.on, Th.begun, isOp, Pl.byOrder, Pl.rounds, Pl.round, Pl.over, Pl.turn, Th.op, Th.does, Ins.fit, Th.place, reg, wordAt, setWord, Th.own, Ins.known, Th.told, mz.own, Cs.put, Cs.go, Th.finish, e0, hcl, hc, y1, y2, hz, f0, f1, f2, f3, f4, f5, f6]
set_option maxRecDepth 100000 in
set_option maxHeartbeats 4000000 in
theorem play_putBox (hq : n + 1 = q) (hc : c < 18446744073709551616) (hf : f < 2) (hx : x < 4294967296) (hn : n < 4294967290) (hv : v < 4294967296) :
    ∃ pl, plays 40 10 [[c], [f], [box n x]] [] [[(putBox v, [])]] = some pl ∧ pl.ws = [[c], [f], [box q v]] ∧ pl.trace = [(0, 1, 0), (0, 5, 0)] ∧ pl.ths.map (·.ans) = [[(true, [q])]] := by
  have e0 : W64 = 18446744073709551616 := W64_eq
  have hf2 : f < 18446744073709551616 := by omega
  have y0 := box_lt hx hn
  have y1 := box_num (n := n) hx
  have y3 : (n + 1) % 18446744073709551616 = q := by rw [← hq]; exact num_lt hn
  have hv2 : v < 18446744073709551616 := by omega
  have y4 : (q * 4294967296 % 18446744073709551616 + v) % 18446744073709551616 = box q v := by rw [← hq]; exact box_put hv hn
  clear hf hx hn hq
  generalize box q v = z at *
  generalize box n x = y at *
  have hK : (2 : Nat) ^ 32 = 4294967296 := rfl
  obtain ⟨z1, hz1⟩ : ∃ z1, q * 4294967296 % 18446744073709551616 = z1 := ⟨_, rfl⟩
  rw [hz1] at y4
  generalize (4294967296 : Nat) = K at *
  obtain ⟨C, hC⟩ : ∃ C, C = [(putBox v, ([] : List Nat))] := ⟨_, rfl⟩
  have hcl : C.length = 1 := by rw [hC]; rfl
  have f0 := ins_at C _ _ hC 0 _ rfl
  have f1 := ins_at C _ _ hC 1 _ rfl
  have f2 := ins_at C _ _ hC 2 _ rfl
  have f3 := ins_at C _ _ hC 3 _ rfl
  have f4 := ins_at C _ _ hC 4 _ rfl
  have f5 := ins_at C _ _ hC 5 _ rfl
  have f6 := ins_at C _ _ hC 6 _ rfl
  have f7 := ins_at C _ _ hC 7 _ rfl
  have f8 := ins_at C _ _ hC 8 _ rfl
  rw [← hC]
  clear hC
  simp (config := { maxSteps := 1000000 }) [-Nat.reducePow, hK, plays, getCode, addCode, upCode, downCode, maxCode, turnCode, getBox, putBox, tryBox, Ins.fin, Pl.starts, Th.fresh, Th.on, Th.begun, isOp, Pl.byOrder, Pl.rounds, Pl.round, Pl.over, Pl.turn, Th.op, Th.does, Ins.fit, Th.place, reg, wordAt, setWord, Th.own, Ins.known, Th.told, mz.own, Cs.put, Cs.go, Th.finish, e0, hcl, hc, hv2, y1, y3, y4, hz1, f0, f1, f2, f3, f4, f5, f6, f7, f8]
set_option maxRecDepth 100000 in
set_option maxHeartbeats 4000000 in
theorem play_try_yes (hq : n + 1 = q) (hc : c < 18446744073709551616) (hf : f < 2) (hx : x < 4294967296) (hn : n < 4294967290) (hv : v < 4294967296) :
    ∃ pl, plays 40 10 [[c], [f], [box n x]] [] [[(tryBox n v, [])]] = some pl ∧ pl.ws = [[c], [f], [box q v]] ∧ pl.trace = [(0, 1, 0), (0, 5, 0)] ∧ pl.ths.map (·.ans) = [[(true, [1])]] := by
  have e0 : W64 = 18446744073709551616 := W64_eq
  have hf2 : f < 18446744073709551616 := by omega
  have y0 := box_lt hx hn
  have y1 := box_num (n := n) hx
  have y3 : (n + 1) % 18446744073709551616 = q := by rw [← hq]; exact num_lt hn
  have hnn : n < 18446744073709551616 := by omega
  have hv2 : v < 18446744073709551616 := by omega
  have y4 : (q * 4294967296 % 18446744073709551616 + v) % 18446744073709551616 = box q v := by rw [← hq]; exact box_put hv hn
  clear hf hx hn hq
  generalize box q v = z at *
  generalize box n x = y at *
  have hK : (2 : Nat) ^ 32 = 4294967296 := rfl
  obtain ⟨z1, hz1⟩ : ∃ z1, q * 4294967296 % 18446744073709551616 = z1 := ⟨_, rfl⟩
  rw [hz1] at y4
  generalize (4294967296 : Nat) = K at *
  obtain ⟨C, hC⟩ : ∃ C, C = [(tryBox n v, ([] : List Nat))] := ⟨_, rfl⟩
  have hcl : C.length = 1 := by rw [hC]; rfl
  have f0 := ins_at C _ _ hC 0 _ rfl
  have f1 := ins_at C _ _ hC 1 _ rfl
  have f2 := ins_at C _ _ hC 2 _ rfl
  have f3 := ins_at C _ _ hC 3 _ rfl
  have f6 := ins_at C _ _ hC 6 _ rfl
  have f7 := ins_at C _ _ hC 7 _ rfl
  have f8 := ins_at C _ _ hC 8 _ rfl
  have f9 := ins_at C _ _ hC 9 _ rfl
  have f10 := ins_at C _ _ hC 10 _ rfl
  have f11 := ins_at C _ _ hC 11 _ rfl
  rw [← hC]
  clear hC
  simp (config := { maxSteps := 1000000 }) [-Nat.reducePow, hK, plays, getCode, addCode, upCode, downCode, maxCode, turnCode, getBox, putBox, tryBox, Ins.fin, Pl.starts, Th.fresh, Th.on, Th.begun, isOp, Pl.byOrder, Pl.rounds, Pl.round, Pl.over, Pl.turn, Th.op, Th.does, Ins.fit, Th.place, reg, wordAt, setWord, Th.own, Ins.known, Th.told, mz.own, Cs.put, Cs.go, Th.finish, e0, hcl, hc, hnn, hv2, y1, y3, y4, hz1, f0, f1, f2, f3, f6, f7, f8, f9, f10, f11]
set_option maxRecDepth 100000 in
set_option maxHeartbeats 4000000 in
theorem play_try_no (hc : c < 18446744073709551616) (hf : f < 2) (hx : x < 4294967296) (hn : n < 4294967290) (hm : m < 18446744073709551616) (hv : v < 4294967296) (h1 : ¬ n = m) :
    ∃ pl, plays 40 10 [[c], [f], [box n x]] [] [[(tryBox m v, [])]] = some pl ∧ pl.ws = [[c], [f], [box n x]] ∧ pl.trace = [(0, 1, 0)] ∧ pl.ths.map (·.ans) = [[(true, [0])]] := by
  have e0 : W64 = 18446744073709551616 := W64_eq
  have hf2 : f < 18446744073709551616 := by omega
  have y0 := box_lt hx hn
  have y1 := box_num (n := n) hx
  have y2 := box_val (n := n) hx
  have y3 := num_lt hn
  have hv2 : v < 18446744073709551616 := by omega
  have y4 := box_put hv hn
  clear hf hx hn
  generalize box n x = y at *
  have hK : (2 : Nat) ^ 32 = 4294967296 := rfl
  generalize (4294967296 : Nat) = K at *
  obtain ⟨C, hC⟩ : ∃ C, C = [(tryBox m v, ([] : List Nat))] := ⟨_, rfl⟩
  have hcl : C.length = 1 := by rw [hC]; rfl
  have f0 := ins_at C _ _ hC 0 _ rfl
  have f1 := ins_at C _ _ hC 1 _ rfl
  have f2 := ins_at C _ _ hC 2 _ rfl
  have f3 := ins_at C _ _ hC 3 _ rfl
  have f4 := ins_at C _ _ hC 4 _ rfl
  have f5 := ins_at C _ _ hC 5 _ rfl
  rw [← hC]
  clear hC
  simp (config := { maxSteps := 1000000 }) [-Nat.reducePow, hK, plays, getCode, addCode, upCode, downCode, maxCode, turnCode, getBox, putBox, tryBox, Ins.fin, Pl.starts, Th.fresh, Th.on, Th.begun, isOp, Pl.byOrder, Pl.rounds, Pl.round, Pl.over, Pl.turn, Th.op, Th.does, Ins.fit, Th.place, reg, wordAt, setWord, Th.own, Ins.known, Th.told, mz.own, Cs.put, Cs.go, Th.finish, e0, hcl, hc, hm, hv2, h1, y1, y2, f0, f1, f2, f3, f4, f5]
end
end Go.Proofs.Ytakpfkfhbeobeaa.rf3
