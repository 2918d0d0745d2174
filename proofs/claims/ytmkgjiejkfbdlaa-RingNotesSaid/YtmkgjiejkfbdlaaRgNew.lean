/-
  ring: New, Slots.
-/
import Derived.Test.YtmkgjiejkfbdlaaRgOp
set_option linter.unusedVariables false
namespace Go.Proofs.Ytmkgjiejkfbdlaa.rg
open Go.RowKit Go.Proofs.Ytmkgjiejkfbdlaa.oc Go.Proofs.Ytmkgjiejkfbdlaa.mz Go.Proofs.Ytmkgjiejkfbdlaa.at_ Go.Proofs.Ytmkgjiejkfbdlaa.gt
def pows : List Nat := [1, 2, 4, 8, 16, 32, 64, 128, 256, 512, 1024]
theorem pow_and : ∀ n : Fin 1025, 0 < n.val → (bits BinOp.and IntKind.i64 (n.val : Int) ((n.val : Int) - 1) = 0 ↔ n.val ∈ pows) := by decide +kernel
theorem pow_yes {n : Nat} (h : n ∈ pows) : 0 < n ∧ n ≤ 1024 := by
  simp only [pows, List.mem_cons, List.not_mem_nil, or_false] at h; omega
theorem word_info : (Try.prog.info? 98).map (fun i => (i.zero.map Value.cells, i.size, decide (i.bytes ≤ 8))) = some (some #[.int .u64 0], 1, true) := by kernel_rfl
theorem make_words (n : Nat) (w : World) (hn : n ≤ 1100) :
    (Instr.makeSlice 63 (.int .i64 (n : Int)) (.int .i64 (n : Int))).run Try.prog w = .ok (.slice (some ⟨w.heap.size, 0, none⟩) n n) (w.alloc (.cells (madeCells #[.int .u64 0] n) 98)) := by
  obtain ⟨i0, hi0, hx⟩ := Option.map_eq_some_iff.1 word_info
  simp only [Prod.mk.injEq, decide_eq_true_eq] at hx
  obtain ⟨hz0, hsz, hby⟩ := hx
  obtain ⟨z, hz, hzc⟩ := Option.map_eq_some_iff.1 hz0
  have h := run_make (P := Try.prog) w 63 98 i0 z Try.underlying63 hi0 hz .i64 .i64 (n : Int) (n : Int) (by omega) (Int.le_refl _) (by
    have q : i0.bytes * n ≤ 8 * 1100 := Nat.mul_le_mul hby hn
    have : ((i0.bytes * n : Nat) : Int) ≤ 281474976710656 := by omega
    rwa [Int.natCast_mul] at this) (by omega)
  rw [hsz, hzc] at h
  simpa using h
theorem made_u64s (n : Nat) : (madeCells #[.int .u64 0] n).toList = u64s (List.replicate n 0) := by
  apply List.ext_getElem?
  intro i
  simp only [madeCells, u64s, Array.toList_map, Array.toList_range, List.getElem?_map, List.getElem?_replicate]
  by_cases h : i < n
  · simp [h, Nat.mod_one]
  · simp [h]
set_option maxRecDepth 100000 in
set_option maxHeartbeats 2000000 in
theorem new_ok (n : Nat) (w : World) (hn : n ∈ pows) : Calls Try.prog 7 #[.int .i64 (n : Int)] w fun e w' => ∃ R W, e = .returned (.tuple #[.pointer (some ⟨R, 0, none⟩), .int .i64 0]) ∧ Rg w' R W n (List.replicate (n + 2) 0) ∧ w.heap.size ≤ R ∧ w.heap.size ≤ W ∧ ∀ S, Keeps S w w' := by
  obtain ⟨h0, h1⟩ := pow_yes hn
  have hand := (pow_and ⟨n, by omega⟩ h0).2 hn
  simp only at hand
  have hmk := make_words (n + 2) w (by omega)
  obtain ⟨w1, hw1⟩ : ∃ w1, w1 = w.alloc (.cells (madeCells #[.int .u64 0] (n + 2)) 98) := ⟨_, rfl⟩
  have b1 : Blk w1 w.heap.size 98 (u64s (List.replicate (n + 2) 0)) := by
    have q := Blk.new w 98 (madeCells #[.int .u64 0] (n + 2))
    rw [made_u64s, ← hw1] at q
    exact q
  have k1 : ∀ S, Keeps S w w1 := fun S => by rw [hw1]; exact (Keeps.refl _ w).alloc _
  have z1 : w1.heap.size = w.heap.size + 1 := by rw [hw1]; simp
  rw [← hw1] at hmk
  have hcast : (((n + 2 : Nat)) : Int) = 2 + (n : Int) := by omega
  rw [hcast] at hmk
  have B1 := Lib.hid b1
  have K1 : Hid (∀ S, Keeps S w w1) := Lib.hid k1
  have Z1 := Lib.hid z1
  have HN := Lib.hid h0
  have hi1 : (n : Int) ≤ 1024 := by omega
  have hi0 : (1 : Int) ≤ (n : Int) := by omega
  clear hw1 b1 k1 z1 h0 h1 hn hcast
  go_enter Try.func7, Try.ntmps7
  go_wp2
  go_ret2
  have b2 := Blk.new w1 65 #[.pointer (some ⟨w1.heap.size, 0, none⟩), .int .u64 (n : Int), .slice (some ⟨w.heap.size, 0, none⟩) (n + 2) (n + 2)]
  refine ⟨w1.heap.size, w.heap.size, rfl, ⟨b2, B1.out.alloc _, by simp, fun x hx => ?_, by have := Z1.out; omega, HN.out, by omega⟩, by have := Z1.out; omega, Nat.le_refl _, fun S => (K1.out S).alloc _⟩
  have := (List.mem_replicate.1 hx).2
  omega
set_option maxRecDepth 100000 in
set_option maxHeartbeats 2000000 in
theorem new_arg (s : Int) (w : World) (hs : ∀ n ∈ pows, s ≠ (n : Int)) : Calls Try.prog 7 #[.int .i64 s] w fun e w' => e = .returned (.tuple #[.pointer none, .int .i64 2]) ∧ w = w' := by
  rcases Int.lt_or_le s 1 with h | h
  · clear hs
    have hd : decide (s < 1) = true := decide_eq_true h
    go_enter Try.func7, Try.ntmps7
    go_wp2
    go_ret2
    exact ⟨rfl, rfl⟩
  · rcases Int.lt_or_le 1024 s with h2 | h2
    · clear hs
      have hd : decide (s < 1) = false := decide_eq_false (by omega)
      have hd2 : decide (1024 < s) = true := decide_eq_true h2
      go_enter Try.func7, Try.ntmps7
      go_wp2
      go_ret2
      exact ⟨rfl, rfl⟩
    · obtain ⟨n, rfl⟩ := Int.eq_ofNat_of_zero_le (show 0 ≤ s by omega)
      have hand : ¬ bits BinOp.and IntKind.i64 (n : Int) ((n : Int) - 1) = 0 := fun z => hs n ((pow_and ⟨n, by omega⟩ (by show 0 < n; omega)).1 z) rfl

      have hd : decide ((n : Int) < 1) = false := decide_eq_false (by omega)
      have hd2 : decide (1024 < (n : Int)) = false := decide_eq_false (by omega)
      have hne : (bits BinOp.and IntKind.i64 (n : Int) ((n : Int) - 1) != 0) = true := by simpa using hand
      have hne2 : (bits BinOp.and IntKind.i64 (n : Int) ((n : Int) - 1) == 0) = false := by simpa using hand
      clear hs hand
      go_enter Try.func7, Try.ntmps7
      go_wp2
      go_ret2
      exact ⟨rfl, rfl⟩
set_option maxRecDepth 100000 in
set_option maxHeartbeats 1000000 in
theorem slots_ (R W n : Nat) (ws : List Nat) (w : World) (h : Rg w R W n ws) : Calls Try.prog 13 #[.pointer (some ⟨R, 0, none⟩)] w fun e w' => e = .returned (.int .i64 (n : Int)) ∧ w = w' := by
  have HN := Lib.hid (none_ R W n ws w h)
  have c1 := h.cell1
  have htop := h.top
  clear h
  go_enter Try.func13, Try.ntmps13
  go_wp2_with fail
  refine HN.out.mono ?_
  rintro e w1 ⟨rfl, rfl⟩
  go_wp2
  try rw [Exit.noGoto_ret]
  go_ret
  exact ⟨rfl, rfl⟩
end Go.Proofs.Ytmkgjiejkfbdlaa.rg
