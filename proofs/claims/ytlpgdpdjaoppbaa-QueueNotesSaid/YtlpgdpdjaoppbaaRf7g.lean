/-
  patchbayref07's codes in memory.
-/
import Derived.Test.YtlpgdpdjaoppbaaRf7
import Derived.Test.YtlpgdpdjaoppbaaMzMade
set_option linter.unusedVariables false
namespace Go.Proofs.Ytlpgdpdjaoppbaa.rf7
open Go.RowKit Go.Proofs.Ytlpgdpdjaoppbaa.oc Go.Proofs.Ytlpgdpdjaoppbaa.mz
set_option maxRecDepth 100000 in
set_option maxHeartbeats 4000000 in
theorem putcode_ (n : Nat) (w : World) (hn : n ≤ 1024) (h0 : 2 ≤ n) : Calls Try.prog 43 #[.int .i64 0, .int .i64 (n : Int), .int .i64 1, .int .i64 0, .int .i64 1] w fun e w' => e = .returned (.slice (some ⟨w.heap.size, 0, none⟩) 17 17) ∧ Blk w' w.heap.size 117 ((putAt n 1).flatMap Ins.cells) ∧ (∀ S, Keeps S w w') := by
  have n1 : (n : Int) ≤ 1024 := by omega
  have n2 : (2 : Int) ≤ (n : Int) := by omega
  have HN := Lib.hid (show ((n - 1 : Nat) : Int) = (n : Int) - 1 by omega)
  clear hn h0
  go_enter Try.func43, Try.ntmps43
  go_wp2
  try rw [← HN.out]
  go_ret
  exact ⟨rfl, Blk.new w _ ((putAt n 1).flatMap Ins.cells).toArray, fun S => (Keeps.refl S w).alloc _⟩
set_option maxRecDepth 100000 in
set_option maxHeartbeats 4000000 in
theorem takecode_ (n k : Nat) (w : World) (hn : n ≤ 1024) (h0 : 2 ≤ n) (hk : k < 2) : Calls Try.prog 44 #[.int .i64 0, .int .i64 (n : Int), .int .i64 (k : Int), .int .i64 0, .int .i64 1] w fun e w' => e = .returned (.slice (some ⟨w.heap.size, 0, none⟩) 19 19) ∧ Blk w' w.heap.size 117 ((takeAt n k).flatMap Ins.cells) ∧ (∀ S, Keeps S w w') := by
  have n1 : (n : Int) ≤ 1024 := by omega
  have n2 : (2 : Int) ≤ (n : Int) := by omega
  have HN := Lib.hid (show ((n - 1 : Nat) : Int) = (n : Int) - 1 by omega)
  clear hn h0
  rcases (show k = 0 ∨ k = 1 by omega) with rfl | rfl
  all_goals
    clear hk
    go_enter Try.func44, Try.ntmps44
    go_wp2
    try rw [← HN.out]
    go_ret
  · exact ⟨rfl, Blk.new w _ ((takeAt n 0).flatMap Ins.cells).toArray, fun S => (Keeps.refl S w).alloc _⟩
  · exact ⟨rfl, Blk.new w _ ((takeAt n 1).flatMap Ins.cells).toArray, fun S => (Keeps.refl S w).alloc _⟩
/-- a result's cell, and a literal behind it -/
theorem began (w : World) (code : List Ins) (n : Nat) (hn : code.length = n) (hl : n ≤ 1000) (w2 : World) (hw2 : w2 = (w.alloc (.cells #[.slice none 0 0, .slice none 0 0] 57)).alloc (.cells (code.flatMap Ins.cells).toArray 117)) : Mk w w2 (.slice (some ⟨w.heap.size + 1, 0, none⟩) n n) code := by
  have b1 : Blk w2 w.heap.size 57 [.slice none 0 0, .slice none 0 0] := by rw [hw2]; exact (Blk.new w _ _).alloc _
  have b2 : Blk w2 (w.heap.size + 1) 117 (code.flatMap Ins.cells) := by
    have := Blk.new (w.alloc (.cells #[.slice none 0 0, .slice none 0 0] 57)) 117 (code.flatMap Ins.cells).toArray
    rw [World.size_alloc] at this
    rw [hw2]; exact this
  exact Mk.start b1 b2 hn (by omega) hl (fun S => by rw [hw2]; exact ((Keeps.refl S w).alloc _).alloc _)
set_option maxRecDepth 100000 in
set_option maxHeartbeats 4000000 in
theorem put_code (n v : Nat) (w : World) (hn : n ≤ 1024) (h0 : 2 ≤ n) : Calls Try.prog 31 #[.int .i64 (n : Int), .int .u64 (v : Int)] w (CallMade w (putCode n v)) := by
  obtain ⟨w2, hw2⟩ : ∃ w2, w2 = (w.alloc (.cells #[.slice none 0 0, .slice none 0 0] 57)).alloc (.cells (([⟨6, 0, 0, 0, 0, 0, v⟩] : List Ins).flatMap Ins.cells).toArray 117) := ⟨_, rfl⟩
  have M2 := Lib.hid (began w [⟨6, 0, 0, 0, 0, 0, v⟩] 1 rfl (by omega) w2 hw2)
  have HP := Lib.hid (putcode_ n w2 hn h0)
  have HW : Hid (w2 = (w.alloc (.cells #[.slice none 0 0, .slice none 0 0] 57)).alloc (.cells #[.int .i64 6, .int .i64 0, .int .i64 0, .int .i64 0, .int .i64 0, .int .i64 0, .int .u64 (v : Int)] 117)) := Lib.hid hw2
  clear hw2 hn h0
  go_enter Try.func31, Try.ntmps31
  go_wp2_with fail
  rw [← HW.out]
  refine HP.out.mono ?_
  rintro e w3 ⟨rfl, b3, k3⟩
  have M3 := Lib.hid (M2.out.grown k3)
  have B3 := Lib.hid b3
  clear b3 k3
  go_wp2_with (at_builtin; first
    | (refine Mk.wpList_append rfl _ _ rfl M3.out rfl w2.heap.size 17 17 (putAt n 1) rfl rfl B3.out (by simp) ?_; intro v4 w4 m4; obtain ⟨g4, c4, rfl⟩ := m4.form (n := 18) rfl (by omega); have b5 := Blk.new w4 117 (([⟨22, 0, 1, 0, 0, 0, 0⟩] : List Ins).flatMap Ins.cells).toArray; have M4 := Lib.hid (m4.alloc (.cells (([⟨22, 0, 1, 0, 0, 0, 0⟩] : List Ins).flatMap Ins.cells).toArray 117)); have B5 := Lib.hid b5; clear m4 b5)
    | (refine Mk.wpList_append rfl _ _ rfl M4.out rfl w4.heap.size 1 1 [⟨22, 0, 1, 0, 0, 0, 0⟩] rfl rfl B5.out (by simp [putAt]) ?_; intro v6 w6 m6; obtain ⟨g6, c6, rfl⟩ := m6.form (n := 19) rfl (by omega); have b6 := m6.res; have f0 := b6.frozen 0; have f1 := b6.frozen 1; have x0 : w6.cell? ⟨w.heap.size, 0, none⟩ = some (.slice none 0 0) := (by rw [b6.cell]; rfl); have x1 : w6.cell? ⟨w.heap.size, 1, none⟩ = some (.slice none 0 0) := (by rw [b6.cell]; rfl); have M6 := Lib.hid m6; clear m6 b6))
  obtain ⟨r0, r1, hk⟩ := M6.out.end_ rfl (by simp)
  refine bodyPost_ret (v := .agg #[.slice (some ⟨g6, 0, none⟩) 19 c6, .slice none 0 0]) (by simp [results, Try.results31, go_sem, r0, r1]) rfl hk
set_option maxRecDepth 100000 in
set_option maxHeartbeats 4000000 in
theorem take_code (n : Nat) (w : World) (hn : n ≤ 1024) (h0 : 2 ≤ n) : Calls Try.prog 32 #[.int .i64 (n : Int)] w (CallMade w (takeCode n)) := by
  obtain ⟨w2, hw2, k2, b2⟩ := enter_blk w #[.slice none 0 0, .slice none 0 0] 57
  have HP := Lib.hid (takecode_ n 0 w2 hn h0 (by omega))
  have hc0 : ((0 : Nat) : Int) = 0 := rfl
  rw [hc0] at HP
  have HW := Lib.hid hw2
  have K2 : Hid (∀ S, Keeps S w w2) := Lib.hid k2
  have B2 := Lib.hid b2
  clear hw2 hn h0 hc0 k2 b2
  go_enter Try.func32, Try.ntmps32
  go_wp2_with fail
  rw [← HW.out]
  go_wp2_with fail
  refine HP.out.mono ?_
  rintro e w3 ⟨rfl, b3, k3⟩
  have m4 : Mk w w3 (.slice (some ⟨w2.heap.size, 0, none⟩) 19 19) (takeAt n 0) := Mk.start (Blk.keeps B2.out (k3 (fun _ => False)) (fun z => z)) b3 rfl B2.out.lt (by omega) (fun S => (K2.out S).trans (k3 S))
  have b5 := Blk.new w3 117 (([⟨22, 0, 0, 0, 0, 0, 0⟩, ⟨22, 0, 1, 0, 0, 0, 0⟩] : List Ins).flatMap Ins.cells).toArray
  have M4 := Lib.hid (m4.alloc (.cells (([⟨22, 0, 0, 0, 0, 0, 0⟩, ⟨22, 0, 1, 0, 0, 0, 0⟩] : List Ins).flatMap Ins.cells).toArray 117))
  have B5 := Lib.hid b5
  clear b3 k3 m4 b5
  go_wp2_with (at_builtin; refine Mk.wpList_append rfl _ _ rfl M4.out rfl w3.heap.size 2 2 [⟨22, 0, 0, 0, 0, 0, 0⟩, ⟨22, 0, 1, 0, 0, 0, 0⟩] rfl rfl B5.out (by simp [takeAt]) ?_; intro v6 w6 m6; obtain ⟨g6, c6, rfl⟩ := m6.form (n := 21) rfl (by omega); have b6 := m6.res; have f0 := b6.frozen 0; have f1 := b6.frozen 1; have x0 : w6.cell? ⟨w.heap.size, 0, none⟩ = some (.slice none 0 0) := (by rw [b6.cell]; rfl); have x1 : w6.cell? ⟨w.heap.size, 1, none⟩ = some (.slice none 0 0) := (by rw [b6.cell]; rfl); have M6 := Lib.hid m6; clear m6 b6)
  obtain ⟨r0, r1, hk⟩ := M6.out.end_ rfl (by simp)
  refine bodyPost_ret (v := .agg #[.slice (some ⟨g6, 0, none⟩) 21 c6, .slice none 0 0]) (by simp [results, Try.results32, go_sem, r0, r1]) rfl hk
set_option maxRecDepth 100000 in
set_option maxHeartbeats 4000000 in
theorem drain_code (n : Nat) (w : World) (hn : n ≤ 1024) (h0 : 2 ≤ n) : Calls Try.prog 33 #[.int .i64 (n : Int)] w (CallMade w (drainCode n)) := by
  obtain ⟨w2, hw2⟩ : ∃ w2, w2 = (w.alloc (.cells #[.slice none 0 0, .slice none 0 0] 57)).alloc (.cells (([⟨6, 0, 3, 0, 0, 0, n⟩] : List Ins).flatMap Ins.cells).toArray 117) := ⟨_, rfl⟩
  have M2 := Lib.hid (began w [⟨6, 0, 3, 0, 0, 0, n⟩] 1 rfl (by omega) w2 hw2)
  have HP := Lib.hid (takecode_ n 1 w2 hn h0 (by omega))
  have hc1 : ((1 : Nat) : Int) = 1 := rfl
  rw [hc1] at HP
  have HW : Hid (w2 = (w.alloc (.cells #[.slice none 0 0, .slice none 0 0] 57)).alloc (.cells #[.int .i64 6, .int .i64 0, .int .i64 3, .int .i64 0, .int .i64 0, .int .i64 0, .int .u64 (n : Int)] 117)) := Lib.hid hw2
  have n1 : (n : Int) ≤ 1024 := by omega
  have n2 : (2 : Int) ≤ (n : Int) := by omega
  clear hw2 hn h0 hc1
  go_enter Try.func33, Try.ntmps33
  go_wp2_with fail
  rw [← HW.out]
  refine HP.out.mono ?_
  rintro e w3 ⟨rfl, b3, k3⟩
  have M3 := Lib.hid (M2.out.grown k3)
  have B3 := Lib.hid b3
  clear b3 k3
  go_wp2_with (at_builtin; first
    | (refine Mk.wpList_append rfl _ _ rfl M3.out rfl w2.heap.size 19 19 (takeAt n 1) rfl rfl B3.out (by simp) ?_; intro v4 w4 m4; obtain ⟨g4, c4, rfl⟩ := m4.form (n := 20) rfl (by omega); have b5 := Blk.new w4 117 (([⟨19, 0, 1, 9, 0, 0, 25⟩, ⟨22, 0, 0, 0, 0, 0, 0⟩, ⟨6, 0, 4, 0, 0, 0, 1⟩, ⟨9, 0, 3, 3, 4, 0, 0⟩, ⟨20, 0, 9, 3, 0, 0, 1⟩] : List Ins).flatMap Ins.cells).toArray; have M4 := Lib.hid (m4.alloc (.cells (([⟨19, 0, 1, 9, 0, 0, 25⟩, ⟨22, 0, 0, 0, 0, 0, 0⟩, ⟨6, 0, 4, 0, 0, 0, 1⟩, ⟨9, 0, 3, 3, 4, 0, 0⟩, ⟨20, 0, 9, 3, 0, 0, 1⟩] : List Ins).flatMap Ins.cells).toArray 117)); have B5 := Lib.hid b5; clear m4 b5)
    | (refine Mk.wpList_append rfl _ _ rfl M4.out rfl w4.heap.size 5 5 [⟨19, 0, 1, 9, 0, 0, 25⟩, ⟨22, 0, 0, 0, 0, 0, 0⟩, ⟨6, 0, 4, 0, 0, 0, 1⟩, ⟨9, 0, 3, 3, 4, 0, 0⟩, ⟨20, 0, 9, 3, 0, 0, 1⟩] rfl rfl B5.out (by simp [takeAt]) ?_; intro v6 w6 m6; obtain ⟨g6, c6, rfl⟩ := m6.form (n := 25) rfl (by omega); have b6 := m6.res; have f0 := b6.frozen 0; have f1 := b6.frozen 1; have x0 : w6.cell? ⟨w.heap.size, 0, none⟩ = some (.slice none 0 0) := (by rw [b6.cell]; rfl); have x1 : w6.cell? ⟨w.heap.size, 1, none⟩ = some (.slice none 0 0) := (by rw [b6.cell]; rfl); have M6 := Lib.hid m6; clear m6 b6))
  obtain ⟨r0, r1, hk⟩ := M6.out.end_ rfl (by simp)
  refine bodyPost_ret (v := .agg #[.slice (some ⟨g6, 0, none⟩) 25 c6, .slice none 0 0]) (by simp [results, Try.results33, go_sem, r0, r1]) rfl hk
end Go.Proofs.Ytlpgdpdjaoppbaa.rf7
