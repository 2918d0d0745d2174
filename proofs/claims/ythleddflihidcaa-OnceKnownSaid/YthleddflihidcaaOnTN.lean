/-
  once's tables of ints: NewTable.
-/
import Derived.Test.YthleddflihidcaaOnIO
import Derived.Test.YthleddflihidcaaOnP
import Derived.Outline
set_option linter.unusedVariables false
namespace Go.Proofs.Ythleddflihidcaa.onI
open Go.RowKit Go.Proofs.Ythleddflihidcaa.oc Go.Proofs.Ythleddflihidcaa.mz Go.Proofs.Ythleddflihidcaa.at_ Go.Proofs.Ythleddflihidcaa.on
theorem slot_info : (Try.prog.info? 50).map (fun i => (i.zero.map Value.cells, i.size, decide (i.bytes ≤ 1000))) = some (some (sl 0 0 0 0 0 (.int .i64 0) 0).toArray, 9, true) := by kernel_rfl
set_option maxRecDepth 100000 in
set_option maxHeartbeats 2000000 in
theorem newSlots_ (n : Nat) (w : World) (hn : n ≤ 1024) :
    Calls Try.prog 16 #[.int .i64 (n : Int)] w fun e w' => e = .returned (.slice (some ⟨w.heap.size, 0, none⟩) n n) ∧ Blk w' w.heap.size 50 (rowOf (.int .i64 0) n n) ∧ (∀ S, Keeps S w w') := by
  obtain ⟨i0, hi0, hx⟩ := Option.map_eq_some_iff.1 slot_info
  simp only [Prod.mk.injEq, decide_eq_true_eq] at hx
  obtain ⟨hz0, hsz, hby⟩ := hx
  obtain ⟨z, hz, hzc⟩ := Option.map_eq_some_iff.1 hz0
  have hmk : (Instr.makeSlice 55 (.int .i64 (n : Int)) (.int .i64 (n : Int))).run Try.prog w =
      .ok (.slice (some ⟨w.heap.size, 0, none⟩) n n) (w.alloc (.cells (madeCells (sl 0 0 0 0 0 (.int .i64 0) 0).toArray (n * 9)) 50)) := by
    have h := run_make (P := Try.prog) w 55 50 i0 z Try.underlying55 hi0 hz .i64 .i64 (n : Int) (n : Int) (by omega) (Int.le_refl _) (by
      have q : i0.bytes * n ≤ 1000 * 1024 := Nat.mul_le_mul hby hn
      have : ((i0.bytes * n : Nat) : Int) ≤ 281474976710656 := by omega
      rwa [Int.natCast_mul] at this) (by omega)
    rw [hsz, hzc] at h
    simpa using h
  obtain ⟨w1, hw1⟩ : ∃ w1, w1 = w.alloc (.cells (madeCells (sl 0 0 0 0 0 (.int .i64 0) 0).toArray (n * 9)) 50) := ⟨_, rfl⟩
  rw [← hw1] at hmk
  have b1 : Blk w1 w.heap.size 50 (rowOf (.int .i64 0) n 0) := by
    have q := Blk.new w 50 (madeCells (sl 0 0 0 0 0 (.int .i64 0) 0).toArray (n * 9))
    rw [made_rep, ← hw1] at q
    exact q
  have k1 : ∀ S, Keeps S w w1 := fun S => by rw [hw1]; exact (Keeps.refl _ w).alloc _
  have B1 := Lib.hid b1
  have K1 : Hid (∀ S, Keeps S w w1) := Lib.hid k1
  clear b1 k1 hw1 hz0 hz hzc hi0 hsz hby
  go_enter Try.func16, Try.ntmps16
  go_wp2
  go_loopw [9] (fun i wr => ∃ k : Nat, k ≤ n ∧ i = .int .i64 k ∧ Blk wr w.heap.size 50 (rowOf (.int .i64 0) n k) ∧ (∀ S, Keeps S w wr)) (fun i _ => n - (intOf i).toNat)
  case atStart => exact ⟨0, Nat.zero_le _, rfl, B1.out, K1.out⟩
  case round =>
    obtain ⟨k, hk, rfl, hb, hkk⟩ := hrel
    have HK : Hid (∀ S, Keeps S w wr) := Lib.hid hkk
    by_cases hlt : k < n
    · rw [rowOf_at _ _ _ hlt] at hb
      have hs : Slot wr w.heap.size (k * 9) 50 (List.replicate k (sl 0 0 0 4294967296 0 (.int .i64 0) 0)).flatten (List.replicate (n - k - 1) (sl 0 0 0 0 0 (.int .i64 0) 0)).flatten (sl 0 0 0 0 0 (.int .i64 0) 0) := ⟨hb, begun_len _ _⟩
      have HB := Lib.hid (begin_ w.heap.size (k * 9) _ _ _ (.int .i64 0) wr hs)
      clear hs hb hkk
      go_wp2_with fail
      refine HB.out.mono ?_
      rintro e w2 ⟨rfl, s2, k2⟩
      have hb2 := s2.blk
      rw [← rowOf_succ] at hb2
      have HB2 := Lib.hid hb2
      have K2 := Lib.hid k2
      clear s2 hb2 k2
      go_wp2
      go_roundw
      case rel =>
        refine ⟨k + 1, by omega, by go_num, HB2.out, fun S => ?_⟩
        have ka := HK.out (fun _ => False)
        refine ⟨by have := K2.out.size; have := ka.size; omega, fun b hb hs => ?_, ka.same.trans K2.out.same⟩
        rw [K2.out.block b (by have := ka.size; omega) (by omega), ka.block b hb (fun z => z)]
      case measure => simp [intOf]; omega
    · have e : k = n := by omega
      subst e
      have HB := Lib.hid hb
      clear hb hkk
      go_wp2
      go_ret
      exact ⟨rfl, HB.out, HK.out⟩
end Go.Proofs.Ythleddflihidcaa.onI
