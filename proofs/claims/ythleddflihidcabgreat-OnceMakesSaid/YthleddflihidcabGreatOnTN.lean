/-
  once's tables of ints: NewTable.
-/
import Derived.Test.YthleddflihidcabGreatOnIO
import Derived.Test.YthleddflihidcabGreatOnP
import Derived.Outline
set_option linter.unusedVariables false
namespace Go.Proofs.YthleddflihidcabGreat.onI
open Go.RowKit Go.Proofs.YthleddflihidcabGreat.oc Go.Proofs.YthleddflihidcabGreat.mz Go.Proofs.YthleddflihidcabGreat.at_ Go.Proofs.YthleddflihidcabGreat.on
theorem slot_info : (Tryz.prog.info? 116).map (fun i => (i.zero.map Value.cells, i.size, decide (i.bytes ≤ 1000))) = some (some (sl 0 0 0 0 0 (.int .i64 0) 0).toArray, 9, true) := by kernel_rfl
set_option maxRecDepth 100000 in
set_option maxHeartbeats 2000000 in
theorem newSlots_ (n : Nat) (w : World) (hn : n ≤ 1024) :
    Calls Tryz.prog 21 #[.int .i64 (n : Int)] w fun e w' => e = .returned (.slice (some ⟨w.heap.size, 0, none⟩) n n) ∧ Blk w' w.heap.size 116 (rowOf (.int .i64 0) n n) ∧ (∀ S, Keeps S w w') := by
  obtain ⟨i0, hi0, hx⟩ := Option.map_eq_some_iff.1 slot_info
  simp only [Prod.mk.injEq, decide_eq_true_eq] at hx
  obtain ⟨hz0, hsz, hby⟩ := hx
  obtain ⟨z, hz, hzc⟩ := Option.map_eq_some_iff.1 hz0
  have hmk : (Instr.makeSlice 58 (.int .i64 (n : Int)) (.int .i64 (n : Int))).run Tryz.prog w =
      .ok (.slice (some ⟨w.heap.size, 0, none⟩) n n) (w.alloc (.cells (madeCells (sl 0 0 0 0 0 (.int .i64 0) 0).toArray (n * 9)) 116)) := by
    have h := run_make (P := Tryz.prog) w 58 116 i0 z Tryz.underlying58 hi0 hz .i64 .i64 (n : Int) (n : Int) (by omega) (Int.le_refl _) (by
      have q : i0.bytes * n ≤ 1000 * 1024 := Nat.mul_le_mul hby hn
      have : ((i0.bytes * n : Nat) : Int) ≤ 281474976710656 := by omega
      rwa [Int.natCast_mul] at this) (by omega)
    rw [hsz, hzc] at h
    simpa using h
  obtain ⟨w1, hw1⟩ : ∃ w1, w1 = w.alloc (.cells (madeCells (sl 0 0 0 0 0 (.int .i64 0) 0).toArray (n * 9)) 116) := ⟨_, rfl⟩
  rw [← hw1] at hmk
  have b1 : Blk w1 w.heap.size 116 (rowOf (.int .i64 0) n 0) := by
    have q := Blk.new w 116 (madeCells (sl 0 0 0 0 0 (.int .i64 0) 0).toArray (n * 9))
    rw [made_rep, ← hw1] at q
    exact q
  have k1 : ∀ S, Keeps S w w1 := fun S => by rw [hw1]; exact (Keeps.refl _ w).alloc _
  have B1 := Lib.hid b1
  have K1 : Hid (∀ S, Keeps S w w1) := Lib.hid k1
  clear b1 k1 hw1 hz0 hz hzc hi0 hsz hby
  go_enter Tryz.func21, Tryz.ntmps21
  go_wp2
  go_loopw [9] (fun i wr => ∃ k : Nat, k ≤ n ∧ i = .int .i64 k ∧ Blk wr w.heap.size 116 (rowOf (.int .i64 0) n k) ∧ (∀ S, Keeps S w wr)) (fun i _ => n - (intOf i).toNat)
  case atStart => exact ⟨0, Nat.zero_le _, rfl, B1.out, K1.out⟩
  case round =>
    obtain ⟨k, hk, rfl, hb, hkk⟩ := hrel
    have HK : Hid (∀ S, Keeps S w wr) := Lib.hid hkk
    by_cases hlt : k < n
    · rw [rowOf_at _ _ _ hlt] at hb
      have hs : Slot wr w.heap.size (k * 9) 116 (List.replicate k (sl 0 0 0 4294967296 0 (.int .i64 0) 0)).flatten (List.replicate (n - k - 1) (sl 0 0 0 0 0 (.int .i64 0) 0)).flatten (sl 0 0 0 0 0 (.int .i64 0) 0) := ⟨hb, begun_len _ _⟩
      have HB := Lib.hid (begin_ w.heap.size (k * 9) _ _ _ (.int .i64 0) wr hs)
      clear hs hb hkk
      go_wp2_with fail
      refine HB.out.mono ?_
      rintro e w2 ⟨rfl, s2, k2⟩
      have hb2 := s2.blk
      rw [← rowOf_succ] at hb2
      have HB2 := Lib.hid hb2
      have K2 := Lib.hid k2
      clear s2 hb2 k2
      go_wp2
      go_roundw
      case rel =>
        refine ⟨k + 1, by omega, by go_num, HB2.out, fun S => ?_⟩
        have ka := HK.out (fun _ => False)
        refine ⟨by have := K2.out.size; have := ka.size; omega, fun b hb hs => ?_, ka.same.trans K2.out.same⟩
        rw [K2.out.block b (by have := ka.size; omega) (by omega), ka.block b hb (fun z => z)]
      case measure => simp [intOf]; omega
    · have e : k = n := by omega
      subst e
      have HB := Lib.hid hb
      clear hb hkk
      go_wp2
      go_ret
      exact ⟨rfl, HB.out, HK.out⟩
end Go.Proofs.YthleddflihidcabGreat.onI
set_option linter.unusedVariables false
namespace Go.Proofs.YthleddflihidcabGreat.onI
open Go.RowKit Go.Proofs.YthleddflihidcabGreat.oc Go.Proofs.YthleddflihidcabGreat.mz Go.Proofs.YthleddflihidcabGreat.at_ Go.Proofs.YthleddflihidcabGreat.on
/-- block X is a table of n slots, which lie in block B with those cells -/
structure Tab (w : World) (X B : Nat) (mk : Value) (n : Nat) (cells : List Value) : Prop where
  head : Blk w X 61 [.pointer (some ⟨X, 0, none⟩), mk, .slice (some ⟨B, 0, none⟩) n n]
  row : Blk w B 116 cells
theorem mk_not_nil (f : FuncId) (cp : Array Value) (w : World) : (binOp .eql 29 (.func (.func f) #[] cp) .nilFunc).run Tryz.prog w = .ok (.bool false) w := by kernel_rfl
theorem mk_nil (w : World) : (binOp .eql 29 .nilFunc .nilFunc).run Tryz.prog w = .ok (.bool true) w := by kernel_rfl
theorem tptr_nil (w : World) : (binOp .eql 25 (.pointer none) (.pointer none)).run Tryz.prog w = .ok (.bool true) w := by kernel_rfl
theorem tptr_other (a : Addr) (w : World) : (binOp .neq 25 (.pointer none) (.pointer (some a))).run Tryz.prog w = .ok (.bool true) w := by kernel_rfl
theorem tab_info : (Tryz.prog.info? 61).map (fun i => i.size) = some 3 := by kernel_rfl
theorem tab_self (w : World) (a : Addr) : (binOp .neq 25 (.pointer (some a)) (.pointer (some a))).run Tryz.prog w = .ok (.bool false) w := by
  cases hi : Tryz.prog.info? 61 with
  | none => have := tab_info; rw [hi] at this; cases this
  | some i => exact Lib.run_neq_ptr_same w a Tryz.underlying25 hi
set_option maxRecDepth 100000 in
set_option maxHeartbeats 1000000 in
theorem newTable_nil (n : Int) (w : World) : Calls Tryz.prog 4 #[.int .i64 n, .nilFunc] w fun e w' => e = .returned (.tuple #[.pointer none, .int .i64 1]) ∧ w = w' := by
  have hm := mk_nil
  go_enter Tryz.func4, Tryz.ntmps4
  go_wp2
  try rw [Exit.noGoto_ret]
  go_ret2
  exact ⟨rfl, rfl⟩
set_option maxRecDepth 100000 in
set_option maxHeartbeats 1000000 in
theorem newTable_arg (n : Int) (f : FuncId) (cp : Array Value) (w : World) (h : n < 1 ∨ 1024 < n) : Calls Tryz.prog 4 #[.int .i64 n, .func (.func f) #[] cp] w fun e w' => e = .returned (.tuple #[.pointer none, .int .i64 2]) ∧ w = w' := by
  have hm := mk_not_nil
  rcases h with h | h
  · have hd : decide (n < 1) = true := decide_eq_true h
    go_enter Tryz.func4, Tryz.ntmps4
    go_wp2
    try rw [Exit.noGoto_ret]
    go_ret2
    exact ⟨rfl, rfl⟩
  · have hd : decide (n < 1) = false := decide_eq_false (by omega)
    have hd2 : decide (1024 < n) = true := decide_eq_true h
    go_enter Tryz.func4, Tryz.ntmps4
    go_wp2
    try rw [Exit.noGoto_ret]
    go_ret2
    exact ⟨rfl, rfl⟩
set_option maxRecDepth 100000 in
set_option maxHeartbeats 1000000 in
theorem newTable_ok (n : Nat) (f : FuncId) (cp : Array Value) (w : World) (h1 : 1 ≤ n) (h2 : n ≤ 1024) : Calls Tryz.prog 4 #[.int .i64 (n : Int), .func (.func f) #[] cp] w fun e w' =>
    ∃ X B, e = .returned (.tuple #[.pointer (some ⟨X, 0, none⟩), .int .i64 0]) ∧ Tab w' X B (.func (.func f) #[] cp) n (rowOf (.int .i64 0) n n) ∧ w.heap.size ≤ B ∧ B < X ∧ ∀ S, Keeps S w w' := by
  have hm := mk_not_nil
  have hd : decide ((n : Int) < 1) = false := decide_eq_false (by omega)
  have hd2 : decide (1024 < (n : Int)) = false := decide_eq_false (by omega)
  have HN := Lib.hid (newSlots_ n w h2)
  clear h1 h2
  go_enter Tryz.func4, Tryz.ntmps4
  go_wp2_with fail
  refine HN.out.mono ?_
  rintro e w1 ⟨rfl, b1, k1⟩
  obtain ⟨w2, hw2⟩ : ∃ w2, w2 = w1.alloc (.cells #[.pointer (some ⟨w1.heap.size, 0, none⟩), .func (.func f) #[] cp, .slice (some ⟨w.heap.size, 0, none⟩) n n] 61) := ⟨_, rfl⟩
  have B1 := Lib.hid b1
  have K1 : Hid (∀ S, Keeps S w w1) := Lib.hid k1
  have HW := Lib.hid hw2
  clear b1 k1 hw2
  go_wp2
  try rw [Exit.noGoto_ret]
  go_ret2
  rw [← HW.out]
  have hb := B1.out.lt
  refine ⟨w1.heap.size, w.heap.size, rfl, ⟨?_, ?_⟩, Nat.le_refl _, hb, fun S => ?_⟩
  · rw [HW.out]; exact Blk.new w1 _ _
  · rw [HW.out]; exact B1.out.alloc _
  · rw [HW.out]; exact (K1.out S).alloc _
end Go.Proofs.YthleddflihidcabGreat.onI
