/-
  once's tables of ints: NewTable, none, Get that does not come to a slot.
-/
import Derived.Test.YthleddflihidcaaOnTN
set_option linter.unusedVariables false
namespace Go.Proofs.Ythleddflihidcaa.onI
open Go.RowKit Go.Proofs.Ythleddflihidcaa.oc Go.Proofs.Ythleddflihidcaa.mz Go.Proofs.Ythleddflihidcaa.at_ Go.Proofs.Ythleddflihidcaa.on
/-- block X is a table of n slots, which lie in block B with those cells -/
structure Tab (w : World) (X B : Nat) (mk : Value) (n : Nat) (cells : List Value) : Prop where
  head : Blk w X 57 [.pointer (some ⟨X, 0, none⟩), mk, .slice (some ⟨B, 0, none⟩) n n]
  row : Blk w B 50 cells
theorem mk_not_nil (f : FuncId) (cp : Array Value) (w : World) : (binOp .eql 54 (.func (.func f) #[] cp) .nilFunc).run Try.prog w = .ok (.bool false) w := by kernel_rfl
theorem mk_nil (w : World) : (binOp .eql 54 .nilFunc .nilFunc).run Try.prog w = .ok (.bool true) w := by kernel_rfl
theorem tptr_nil (w : World) : (binOp .eql 22 (.pointer none) (.pointer none)).run Try.prog w = .ok (.bool true) w := by kernel_rfl
theorem tptr_other (a : Addr) (w : World) : (binOp .neq 22 (.pointer none) (.pointer (some a))).run Try.prog w = .ok (.bool true) w := by kernel_rfl
theorem tab_info : (Try.prog.info? 57).map (fun i => i.size) = some 3 := by kernel_rfl
theorem tab_self (w : World) (a : Addr) : (binOp .neq 22 (.pointer (some a)) (.pointer (some a))).run Try.prog w = .ok (.bool false) w := by
  cases hi : Try.prog.info? 57 with
  | none => have := tab_info; rw [hi] at this; cases this
  | some i => exact Lib.run_neq_ptr_same w a Try.underlying22 hi
set_option maxRecDepth 100000 in
set_option maxHeartbeats 1000000 in
theorem newTable_nil (n : Int) (w : World) : Calls Try.prog 4 #[.int .i64 n, .nilFunc] w fun e w' => e = .returned (.tuple #[.pointer none, .int .i64 1]) ∧ w = w' := by
  have hm := mk_nil
  go_enter Try.func4, Try.ntmps4
  go_wp2
  try rw [Exit.noGoto_ret]
  go_ret2
  exact ⟨rfl, rfl⟩
set_option maxRecDepth 100000 in
set_option maxHeartbeats 1000000 in
theorem newTable_arg (n : Int) (f : FuncId) (cp : Array Value) (w : World) (h : n < 1 ∨ 1024 < n) : Calls Try.prog 4 #[.int .i64 n, .func (.func f) #[] cp] w fun e w' => e = .returned (.tuple #[.pointer none, .int .i64 2]) ∧ w = w' := by
  have hm := mk_not_nil
  rcases h with h | h
  · have hd : decide (n < 1) = true := decide_eq_true h
    go_enter Try.func4, Try.ntmps4
    go_wp2
    try rw [Exit.noGoto_ret]
    go_ret2
    exact ⟨rfl, rfl⟩
  · have hd : decide (n < 1) = false := decide_eq_false (by omega)
    have hd2 : decide (1024 < n) = true := decide_eq_true h
    go_enter Try.func4, Try.ntmps4
    go_wp2
    try rw [Exit.noGoto_ret]
    go_ret2
    exact ⟨rfl, rfl⟩
set_option maxRecDepth 100000 in
set_option maxHeartbeats 1000000 in
theorem newTable_ok (n : Nat) (f : FuncId) (cp : Array Value) (w : World) (h1 : 1 ≤ n) (h2 : n ≤ 1024) : Calls Try.prog 4 #[.int .i64 (n : Int), .func (.func f) #[] cp] w fun e w' =>
    ∃ X B, e = .returned (.tuple #[.pointer (some ⟨X, 0, none⟩), .int .i64 0]) ∧ Tab w' X B (.func (.func f) #[] cp) n (rowOf (.int .i64 0) n n) ∧ w.heap.size ≤ B ∧ B < X ∧ ∀ S, Keeps S w w' := by
  have hm := mk_not_nil
  have hd : decide ((n : Int) < 1) = false := decide_eq_false (by omega)
  have hd2 : decide (1024 < (n : Int)) = false := decide_eq_false (by omega)
  have HN := Lib.hid (newSlots_ n w h2)
  clear h1 h2
  go_enter Try.func4, Try.ntmps4
  go_wp2_with fail
  refine HN.out.mono ?_
  rintro e w1 ⟨rfl, b1, k1⟩
  obtain ⟨w2, hw2⟩ : ∃ w2, w2 = w1.alloc (.cells #[.pointer (some ⟨w1.heap.size, 0, none⟩), .func (.func f) #[] cp, .slice (some ⟨w.heap.size, 0, none⟩) n n] 57) := ⟨_, rfl⟩
  have B1 := Lib.hid b1
  have K1 : Hid (∀ S, Keeps S w w1) := Lib.hid k1
  have HW := Lib.hid hw2
  clear b1 k1 hw2
  go_wp2
  try rw [Exit.noGoto_ret]
  go_ret2
  rw [← HW.out]
  have hb := B1.out.lt
  refine ⟨w1.heap.size, w.heap.size, rfl, ⟨?_, ?_⟩, Nat.le_refl _, hb, fun S => ?_⟩
  · rw [HW.out]; exact Blk.new w1 _ _
  · rw [HW.out]; exact B1.out.alloc _
  · rw [HW.out]; exact (K1.out S).alloc _
set_option maxRecDepth 100000 in
set_option maxHeartbeats 1000000 in
theorem tnone_ (X B n : Nat) (mk : Value) (cs : List Value) (w : World) (h : Tab w X B mk n cs) : Calls Try.prog 20 #[.pointer (some ⟨X, 0, none⟩)] w fun e w' => e = .returned (.bool false) ∧ w = w' := by
  have p0 : w.cell? ⟨X, 0, none⟩ = some (.pointer (some ⟨X, 0, none⟩)) := by rw [h.head.cell]; rfl
  have hns := tab_self
  clear h
  go_enter Try.func20, Try.ntmps20
  go_wp2
  go_ret
  exact ⟨rfl, rfl⟩
set_option maxRecDepth 100000 in
set_option maxHeartbeats 1000000 in
theorem tnone_nil (w : World) : Calls Try.prog 20 #[.pointer none] w fun e w' => e = .returned (.bool true) ∧ w = w' := by
  have hpn := tptr_nil
  go_enter Try.func20, Try.ntmps20
  go_wp2
  go_ret
  exact ⟨rfl, rfl⟩
set_option maxRecDepth 100000 in
set_option maxHeartbeats 1000000 in
theorem tnone_zero (X : Nat) (w : World) (h : w.cell? ⟨X, 0, none⟩ = some (.pointer none)) : Calls Try.prog 20 #[.pointer (some ⟨X, 0, none⟩)] w fun e w' => e = .returned (.bool true) ∧ w = w' := by
  have hpo := tptr_other
  go_enter Try.func20, Try.ntmps20
  go_wp2
  go_ret
  exact ⟨rfl, rfl⟩
set_option maxRecDepth 100000 in
set_option maxHeartbeats 1000000 in
theorem tmade_nil (w : World) : Calls Try.prog 9 #[.pointer none] w fun e w' => e = .returned (.slice none 0 0) ∧ w = w' := by
  have HN := Lib.hid (tnone_nil w)
  go_enter Try.func9, Try.ntmps9
  go_wp2_with fail
  refine HN.out.mono ?_
  rintro e w' ⟨rfl, rfl⟩
  go_wp2
  try rw [Exit.noGoto_ret]
  go_ret
  exact ⟨rfl, rfl⟩
/-- what a Get boxes: the table's pointer and the number -/
theorem boxes (p : Option Addr) (i : Int) (w : World) : ∃ w1, w1 = (w.alloc (.cells #[.pointer p] 22)).alloc (.cells #[.int .i64 i] 3) ∧ (∀ S, Keeps S w w1) ∧ w1.heap.size = w.heap.size + 2 ∧
    w1.cell? ⟨w.heap.size, 0, none⟩ = some (.pointer p) ∧ w1.cell? ⟨w.heap.size + 1, 0, none⟩ = some (.int .i64 i) := by
  refine ⟨_, rfl, fun S => ((Keeps.refl _ w).alloc _).alloc _, by simp, ?_, ?_⟩
  · exact ((Blk.new w 22 #[.pointer p]).alloc (.cells #[.int .i64 i] 3)).cell 0
  · simp
set_option maxRecDepth 100000 in
set_option maxHeartbeats 1000000 in
theorem tget_nil (i : Int) (w : World) : Calls Try.prog 7 #[.pointer none, .nilIface, .int .i64 i] w fun e w' => e = .returned (.tuple #[.int .i64 0, .int .i64 1]) ∧ ∀ S, Keeps S w w' := by
  obtain ⟨w1, hw1, k1, z1, c1, c2⟩ := boxes none i w
  have HN := Lib.hid (tnone_nil w1)
  have HW := Lib.hid hw1
  have K1 : Hid (∀ S, Keeps S w w1) := Lib.hid k1
  clear hw1 k1 z1
  go_enter Try.func7, Try.ntmps7
  go_wp2_with fail
  rw [← HW.out]
  go_wp2_with fail
  refine HN.out.mono ?_
  rintro e w' ⟨rfl, rfl⟩
  go_wp2
  try rw [Exit.noGoto_ret]
  go_ret2
  exact ⟨rfl, K1.out⟩
set_option maxRecDepth 100000 in
set_option maxHeartbeats 1000000 in
theorem tget_zero (X : Nat) (i : Int) (w : World) (h : w.cell? ⟨X, 0, none⟩ = some (.pointer none)) : Calls Try.prog 7 #[.pointer (some ⟨X, 0, none⟩), .nilIface, .int .i64 i] w fun e w' => e = .returned (.tuple #[.int .i64 0, .int .i64 1]) ∧ ∀ S, Keeps S w w' := by
  obtain ⟨w1, hw1, k1, z1, c1, c2⟩ := boxes (some ⟨X, 0, none⟩) i w
  have HN := Lib.hid (tnone_zero X w1 (Keeps.cell (k1 (fun _ => False)) h (fun z => z)))
  have HW := Lib.hid hw1
  have K1 : Hid (∀ S, Keeps S w w1) := Lib.hid k1
  clear hw1 k1 z1 h
  go_enter Try.func7, Try.ntmps7
  go_wp2_with fail
  rw [← HW.out]
  go_wp2_with fail
  refine HN.out.mono ?_
  rintro e w' ⟨rfl, rfl⟩
  go_wp2
  try rw [Exit.noGoto_ret]
  go_ret2
  exact ⟨rfl, K1.out⟩
set_option maxRecDepth 100000 in
set_option maxHeartbeats 2000000 in
theorem tget_range (X B n : Nat) (mk : Value) (cs : List Value) (i : Int) (w : World) (h : Tab w X B mk n cs) (hi : i < 0 ∨ (n : Int) ≤ i) : Calls Try.prog 7 #[.pointer (some ⟨X, 0, none⟩), .nilIface, .int .i64 i] w fun e w' => e = .returned (.tuple #[.int .i64 0, .int .i64 5]) ∧ ∀ S, Keeps S w w' := by
  obtain ⟨w1, hw1, k1, z1, c1, c2⟩ := boxes (some ⟨X, 0, none⟩) i w
  have h1 : Tab w1 X B mk n cs := ⟨Blk.keeps h.head (k1 (fun _ => False)) (fun z => z), Blk.keeps h.row (k1 (fun _ => False)) (fun z => z)⟩
  have HN := Lib.hid (tnone_ X B n mk cs w1 h1)
  have c3 : w1.cell? ⟨X, 2, none⟩ = some (.slice (some ⟨B, 0, none⟩) n n) := by rw [h1.head.cell]; rfl
  have HW := Lib.hid hw1
  have K1 : Hid (∀ S, Keeps S w w1) := Lib.hid k1
  clear hw1 k1 z1 h h1
  rcases hi with hi | hi
  · have hd : decide (i < 0) = true := decide_eq_true hi
    go_enter Try.func7, Try.ntmps7
    go_wp2_with fail
    rw [← HW.out]
    go_wp2_with fail
    refine HN.out.mono ?_
    rintro e w' ⟨rfl, rfl⟩
    go_wp2
    go_quiet (fail)
    go_wp2
    try rw [Exit.noGoto_ret]
    go_ret2
    exact ⟨rfl, fun S => (K1.out S).trans (Keeps.of_drew _ _)⟩
  · have hd : decide (i < 0) = false := decide_eq_false (by omega)
    have hd2 : decide ((n : Int) ≤ i) = true := decide_eq_true hi
    go_enter Try.func7, Try.ntmps7
    go_wp2_with fail
    rw [← HW.out]
    go_wp2_with fail
    refine HN.out.mono ?_
    rintro e w' ⟨rfl, rfl⟩
    go_wp2
    go_quiet (fail)
    go_wp2
    try rw [Exit.noGoto_ret]
    go_ret2
    exact ⟨rfl, fun S => (K1.out S).trans (Keeps.of_drew _ _)⟩
end Go.Proofs.Ythleddflihidcaa.onI
