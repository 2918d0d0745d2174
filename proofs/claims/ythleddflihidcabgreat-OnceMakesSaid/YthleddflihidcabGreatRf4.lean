/-
  patchbayref04: a make's number, what it tells, its state; the plain machine at Get.
-/
import Derived.Test.YthleddflihidcabGreatMzQ
import Derived.Test.YthleddflihidcabGreatMzAlone
import Derived.Test.YthleddflihidcabGreatOnSlot
import Derived.Deep.RegionHeld3
set_option linter.unusedSimpArgs false
set_option linter.unusedVariables false
namespace Go.Proofs.YthleddflihidcabGreat.rf4
open Go.Proofs.YthleddflihidcabGreat.mz
/-- Get's code: the state behind the make, what is told -/
def getCode (st a b : Nat) : List Ins := [⟨1, 0, 0, 9, 0, 0, 0⟩, ⟨6, 0, 1, 0, 0, 0, 1⟩, ⟨19, 0, 0, 1, 0, 0, 0⟩, ⟨19, 0, 0, 9, 0, 0, 5⟩, ⟨18, 0, 0, 0, 0, 0, 10⟩, ⟨5, 0, 2, 9, 9, 1, 0⟩, ⟨19, 0, 2, 9, 0, 0, 0⟩,
  ⟨6, 0, 3, 0, 0, 0, st⟩, ⟨2, 0, 3, 9, 0, 0, 0⟩, ⟨18, 0, 0, 0, 0, 0, 10⟩, ⟨6, 0, 5, 0, 0, 0, a⟩, ⟨22, 0, 5, 0, 0, 0, 0⟩, ⟨6, 0, 4, 0, 0, 0, b⟩, ⟨22, 0, 4, 0, 0, 0, 0⟩]
theorem ins_at (C : List (List Ins × List Nat)) (c : List Ins) (d : List Nat) (hC : C = [(c, d)]) (k : Nat) (x : Ins) (h : c.getD k Ins.fin = x) (rs : List Nat) (ans : List (Bool × List Nat)) (ov : Bool) : Th.ins ⟨C, 0, k, rs, ans, ov⟩ = x := by
  subst hC; exact h
set_option maxRecDepth 100000 in
set_option maxHeartbeats 4000000 in
theorem play_first (st a b : Nat) (h1 : st < 18446744073709551616) (h2 : a < 18446744073709551616) (h3 : b < 18446744073709551616) :
    ∃ pl, plays 40 10 [[0]] [] [[(getCode st a b, [])]] = some pl ∧ pl.ws = [[st]] ∧ pl.trace = [(0, 1, 0), (0, 5, 0), (0, 2, 0)] ∧ pl.ths.map (·.ans) = [[(true, [a, b])]] := by
  have e0 : W64 = 18446744073709551616 := W64_eq
  obtain ⟨C, hC⟩ : ∃ C, C = [(getCode st a b, ([] : List Nat))] := ⟨_, rfl⟩
  have hl : C.length = 1 := by rw [hC]; rfl
  have f0 := ins_at C _ _ hC 0 _ rfl
  have f1 := ins_at C _ _ hC 1 _ rfl
  have f2 := ins_at C _ _ hC 2 _ rfl
  have f3 := ins_at C _ _ hC 3 _ rfl
  have f4 := ins_at C _ _ hC 4 _ rfl
  have f5 := ins_at C _ _ hC 5 _ rfl
  have f6 := ins_at C _ _ hC 6 _ rfl
  have f7 := ins_at C _ _ hC 7 _ rfl
  have f8 := ins_at C _ _ hC 8 _ rfl
  have f9 := ins_at C _ _ hC 9 _ rfl
  have f10 := ins_at C _ _ hC 10 _ rfl
  have f11 := ins_at C _ _ hC 11 _ rfl
  have f12 := ins_at C _ _ hC 12 _ rfl
  have f13 := ins_at C _ _ hC 13 _ rfl
  have f14 := ins_at C _ _ hC 14 _ rfl
  rw [← hC]
  clear hC
  simp (config := { maxSteps := 1000000 }) [plays, getCode, Ins.fin, Pl.starts, Th.fresh, Th.on, Th.begun, isOp, Pl.byOrder, Pl.rounds, Pl.round, Pl.over, Pl.turn, Th.op, Th.does, Ins.fit, Th.place, reg, wordAt, setWord, Th.own, Ins.known, Th.told, mz.own, Cs.put, Cs.go, Th.finish, e0, h1, h2, h3, hl, f0, f1, f2, f3, f4, f5, f6, f7, f8, f9, f10, f11, f12, f13, f14]
set_option maxRecDepth 100000 in
set_option maxHeartbeats 4000000 in
theorem play_again (s st a b : Nat) (hs : s = 2 ∨ s = 3) (h1 : st < 18446744073709551616) (h2 : a < 18446744073709551616) (h3 : b < 18446744073709551616) :
    ∃ pl, plays 40 10 [[s]] [] [[(getCode st a b, [])]] = some pl ∧ pl.ws = [[s]] ∧ pl.trace = [(0, 1, 0)] ∧ pl.ths.map (·.ans) = [[(true, [a, b])]] := by
  have e0 : W64 = 18446744073709551616 := W64_eq
  obtain ⟨C, hC⟩ : ∃ C, C = [(getCode st a b, ([] : List Nat))] := ⟨_, rfl⟩
  have hl : C.length = 1 := by rw [hC]; rfl
  have f0 := ins_at C _ _ hC 0 _ rfl
  have f1 := ins_at C _ _ hC 1 _ rfl
  have f2 := ins_at C _ _ hC 2 _ rfl
  have f3 := ins_at C _ _ hC 3 _ rfl
  have f4 := ins_at C _ _ hC 4 _ rfl
  have f5 := ins_at C _ _ hC 5 _ rfl
  have f6 := ins_at C _ _ hC 6 _ rfl
  have f7 := ins_at C _ _ hC 7 _ rfl
  have f8 := ins_at C _ _ hC 8 _ rfl
  have f9 := ins_at C _ _ hC 9 _ rfl
  have f10 := ins_at C _ _ hC 10 _ rfl
  have f11 := ins_at C _ _ hC 11 _ rfl
  have f12 := ins_at C _ _ hC 12 _ rfl
  have f13 := ins_at C _ _ hC 13 _ rfl
  have f14 := ins_at C _ _ hC 14 _ rfl
  rw [← hC]
  clear hC
  rcases hs with rfl | rfl
  all_goals simp (config := { maxSteps := 1000000 }) [plays, getCode, Ins.fin, Pl.starts, Th.fresh, Th.on, Th.begun, isOp, Pl.byOrder, Pl.rounds, Pl.round, Pl.over, Pl.turn, Th.op, Th.does, Ins.fit, Th.place, reg, wordAt, setWord, Th.own, Ins.known, Th.told, mz.own, Cs.put, Cs.go, Th.finish, e0, h1, h2, h3, hl, f0, f1, f2, f3, f4, f5, f6, f7, f8, f9, f10, f11, f12, f13, f14]
end Go.Proofs.YthleddflihidcabGreat.rf4
set_option linter.unusedVariables false
namespace Go.Proofs.YthleddflihidcabGreat.rf4
open Go.RowKit Go.Proofs.YthleddflihidcabGreat.oc Go.Proofs.YthleddflihidcabGreat.mz Go.Proofs.YthleddflihidcabGreat.on
/-- the number that a refusal answers -/
def erN (c : Int) : Int := if c = 0 then 1 else c
/-- as a word -/
def erW (c : Int) : Nat := (erN c % 18446744073709551616).toNat
/-- a make by value -/
def mkV (d : Int) (v : Nat) (c : Int) : Value := .agg #[.int .i64 d, .int .u64 (v : Int), .int .i64 c]
theorem box_make (d : Int) (v : Nat) (c : Int) (w : World) : ∃ w1, w1 = w.alloc (.cells #[.int .i64 d, .int .u64 (v : Int), .int .i64 c] 24) ∧ (∀ S, Keeps S w w1) ∧ Blk w1 w.heap.size 24 [.int .i64 d, .int .u64 (v : Int), .int .i64 c] :=
  ⟨_, rfl, fun S => (Keeps.refl _ w).alloc _, Blk.new w _ _⟩
set_option maxRecDepth 100000 in
set_option maxHeartbeats 1000000 in
theorem errno_ (d : Int) (v : Nat) (c : Int) (w : World) : Calls Tryz.prog 23 #[mkV d v c] w fun e w' => e = .returned (.int .i64 (erN c)) ∧ ∀ S, Keeps S w w' := by
  obtain ⟨w1, hw1, k1, b1⟩ := box_make d v c w
  have c2 : w1.cell? ⟨w.heap.size, 2, none⟩ = some (.int .i64 c) := by rw [b1.cell]; rfl
  have HW := Lib.hid hw1
  have K1 : Hid (∀ S, Keeps S w w1) := Lib.hid k1
  clear hw1 k1 b1
  unfold mkV
  by_cases h : c = 0
  · have hd : (c == 0) = true := by simp [h]
    have he : erN c = 1 := by simp [erN, h]
    rw [he]
    have HE := Lib.hid h
    clear h he
    go_enter Tryz.func23, Tryz.ntmps23
    go_wp2_with fail
    rw [← HW.out]
    go_wp2
    try rw [Exit.noGoto_ret]
    go_ret
    exact ⟨rfl, K1.out⟩
  · have hd : (c == 0) = false := by simp [h]
    have he : erN c = c := by simp [erN, h]
    rw [he]
    clear h he
    go_enter Tryz.func23, Tryz.ntmps23
    go_wp2_with fail
    rw [← HW.out]
    go_wp2
    try rw [Exit.noGoto_ret]
    go_ret
    exact ⟨rfl, K1.out⟩
/-- the state behind a make -/
def stN (d : Int) : Nat := if d = 1 then 3 else 2
set_option maxRecDepth 100000 in
set_option maxHeartbeats 1000000 in
theorem state_ (d : Int) (v : Nat) (c : Int) (w : World) : Calls Tryz.prog 28 #[mkV d v c] w fun e w' => e = .returned (.int .u64 (stN d : Int)) ∧ ∀ S, Keeps S w w' := by
  obtain ⟨w1, hw1, k1, b1⟩ := box_make d v c w
  have c0 : w1.cell? ⟨w.heap.size, 0, none⟩ = some (.int .i64 d) := by rw [b1.cell]; rfl
  have HW := Lib.hid hw1
  have K1 : Hid (∀ S, Keeps S w w1) := Lib.hid k1
  clear hw1 k1 b1
  unfold mkV
  by_cases h : d = 1
  · have hd : (d == 1) = true := by simp [h]
    have he : stN d = 3 := by simp [stN, h]
    rw [he]
    have HE := Lib.hid h
    clear h he
    go_enter Tryz.func28, Tryz.ntmps28
    go_wp2_with fail
    rw [← HW.out]
    go_wp2
    try rw [Exit.noGoto_ret]
    go_ret
    exact ⟨rfl, K1.out⟩
  · have hd : (d == 1) = false := by simp [h]
    have he : stN d = 2 := by simp [stN, h]
    rw [he]
    clear h he
    go_enter Tryz.func28, Tryz.ntmps28
    go_wp2_with fail
    rw [← HW.out]
    go_wp2
    try rw [Exit.noGoto_ret]
    go_ret
    exact ⟨rfl, K1.out⟩
/-- what each Get answers, as words -/
def t0 (d c : Int) : Nat := if d = 1 then erW c else 0
def t1 (d : Int) (v : Nat) : Nat := if d = 1 then 0 else v
set_option maxRecDepth 100000 in
set_option maxHeartbeats 1000000 in
theorem told_ (d : Int) (v : Nat) (c : Int) (w : World) : Calls Tryz.prog 27 #[mkV d v c] w fun e w' => ∃ g, e = .returned (.slice (some ⟨g, 0, none⟩) 2 2) ∧ w'.cell? ⟨g, 0, none⟩ = some (.int .u64 (t0 d c : Int)) ∧ w'.cell? ⟨g, 1, none⟩ = some (.int .u64 (t1 d v : Int)) ∧ (∀ S, Keeps S w w') ∧ w.heap.size ≤ g ∧ g < w'.heap.size := by
  obtain ⟨w1, hw1, k1, b1⟩ := box_make d v c w
  have c0 : w1.cell? ⟨w.heap.size, 0, none⟩ = some (.int .i64 d) := by rw [b1.cell]; rfl
  have c1 : w1.cell? ⟨w.heap.size, 1, none⟩ = some (.int .u64 (v : Int)) := by rw [b1.cell]; rfl
  have c2 : w1.cell? ⟨w.heap.size, 2, none⟩ = some (.int .i64 c) := by rw [b1.cell]; rfl
  have z1 : w1.heap.size = w.heap.size + 1 := by rw [hw1]; simp
  have HER := Lib.hid (errno_ d v c w1)
  have HW := Lib.hid hw1
  have K1 : Hid (∀ S, Keeps S w w1) := Lib.hid k1
  have Z1 : Hid (w1.heap.size = w.heap.size + 1) := Lib.hid z1
  clear hw1 k1 b1 z1
  unfold mkV at HER ⊢
  by_cases h : d = 1
  · have hd : (d == 1) = true := by simp [h]
    have he : t0 d c = erW c := by simp [t0, h]
    have he2 : t1 d v = 0 := by simp [t1, h]
    have hw : (IntKind.u64.wrap (erN c)) = ((erW c : Nat) : Int) := by
      rw [wrap_u64, erW]; omega
    rw [he, he2]
    have HWR := Lib.hid hw
    have HE := Lib.hid h
    clear h he he2 hw
    go_enter Tryz.func27, Tryz.ntmps27
    go_wp2_with fail
    rw [← HW.out]
    go_wp2_with fail
    refine HER.out.mono ?_
    rintro e w2 ⟨rfl, k2⟩
    have K2 : Hid (∀ S, Keeps S w1 w2) := Lib.hid k2
    clear k2
    go_wp2
    try rw [Exit.noGoto_ret]
    go_ret
    have b2 := Blk.new w2 22 #[.int .u64 (IntKind.u64.wrap (erN c)), .int .u64 0]
    have z := (K2.out (fun _ => False)).size
    have z1 := Z1.out
    refine ⟨w2.heap.size, rfl, by rw [b2.cell, ← HWR.out]; rfl, by rw [b2.cell]; rfl, fun S => ((K1.out S).trans (K2.out S)).alloc _, by omega, by simp⟩
  · have hd : (d == 1) = false := by simp [h]
    have he : t0 d c = 0 := by simp [t0, h]
    have he2 : t1 d v = v := by simp [t1, h]
    rw [he, he2]
    clear h he he2
    go_enter Tryz.func27, Tryz.ntmps27
    go_wp2_with fail
    rw [← HW.out]
    go_wp2
    try rw [Exit.noGoto_ret]
    go_ret
    have b2 := Blk.new w1 22 #[.int .u64 0, .int .u64 (v : Int)]
    have hz := Z1.out
    rw [hz] at b2
    refine ⟨w.heap.size + 1, rfl, by rw [b2.cell]; rfl, by rw [b2.cell]; rfl, fun S => (K1.out S).alloc _, by omega, by simp; omega⟩
end Go.Proofs.YthleddflihidcabGreat.rf4
