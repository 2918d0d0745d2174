/-
  patchbayref06's codes in memory.
-/
import Derived.Test.YtmkgjiejkfbdlaaRf6
import Derived.Test.YtmkgjiejkfbdlaaMzAlone
import Derived.Test.YtmkgjiejkfbdlaaMzK2
import Derived.Test.YtmkgjiejkfbdlaaMzSame
import Derived.Deep.OwnRows
set_option linter.unusedVariables false
namespace Go.Proofs.Ytmkgjiejkfbdlaa.rf6
open Go.RowKit Go.Proofs.Ytmkgjiejkfbdlaa.oc Go.Proofs.Ytmkgjiejkfbdlaa.mz
theorem cells_len (x : Ins) : x.cells.length = 7 := rfl
theorem code_at : ∀ (l : List Ins) (i : Nat) (x : Ins) (j : Nat) (u : Value), l[i]? = some x → x.cells[j]? = some u → (l.flatMap Ins.cells)[i * 7 + j]? = some u
  | a :: l, 0, x, j, u, h, hu => by
    simp at h; subst h
    rw [List.flatMap_cons, Nat.zero_mul, Nat.zero_add, List.getElem?_append_left (List.getElem?_eq_some_iff.1 hu).1]
    exact hu
  | a :: l, i + 1, x, j, u, h, hu => by
    rw [List.flatMap_cons, List.getElem?_append_right (by rw [cells_len]; omega), cells_len, show (i + 1) * 7 + j - 7 = i * 7 + j from by omega]
    exact code_at l i x j u (by simpa using h) hu
  | [], i, x, j, u, h, hu => by simp at h
/-- what a builder leaves: the call, its code in a block of its own -/
theorem code_end (w : World) (code : List Ins) (L : Nat) (hl : code.length = L) :
    ((w.alloc (.cells #[.slice (some ⟨w.heap.size + 1, 0, none⟩) L L, .slice none 0 0] 57)).alloc (.cells (code.flatMap Ins.cells).toArray 112)).cell? ⟨w.heap.size, 0, none⟩ = some (.slice (some ⟨w.heap.size + 1, 0, none⟩) L L) ∧ ((w.alloc (.cells #[.slice (some ⟨w.heap.size + 1, 0, none⟩) L L, .slice none 0 0] 57)).alloc (.cells (code.flatMap Ins.cells).toArray 112)).cell? ⟨w.heap.size, 1, none⟩ = some (.slice none 0 0) ∧ (∀ w'', Keeps (fun b => b < w.heap.size) ((w.alloc (.cells #[.slice (some ⟨w.heap.size + 1, 0, none⟩) L L, .slice none 0 0] 57)).alloc (.cells (code.flatMap Ins.cells).toArray 112)) w'' → IsCode w'' w''.heap.size (.slice (some ⟨w.heap.size + 1, 0, none⟩) L L) code) ∧ (∀ S, Keeps S w ((w.alloc (.cells #[.slice (some ⟨w.heap.size + 1, 0, none⟩) L L, .slice none 0 0] 57)).alloc (.cells (code.flatMap Ins.cells).toArray 112))) := by
  have b1 := (Blk.new w 57 #[.slice (some ⟨w.heap.size + 1, 0, none⟩) L L, .slice none 0 0]).alloc (.cells (code.flatMap Ins.cells).toArray 112)
  have b2 := Blk.new (w.alloc (.cells #[.slice (some ⟨w.heap.size + 1, 0, none⟩) L L, .slice none 0 0] 57)) 112 (code.flatMap Ins.cells).toArray
  rw [World.size_alloc] at b2
  refine ⟨by rw [b1.cell]; rfl, by rw [b1.cell]; rfl, fun w'' kk => ?_, fun S => ((Keeps.refl _ w).alloc _).alloc _⟩
  have b3 := Blk.keeps b2 kk (by omega)
  refine ⟨_, L, by rw [hl], fun i x hx => ⟨_, 0, rfl, b3.lt, fun j u hu => ?_⟩⟩
  rw [b3.cell, Nat.zero_add]
  exact code_at code i x j u hx hu
/-- what a builder answers -/
def Built (w : World) (code : List Ins) (e : Ending) (w' : World) : Prop := ∃ cv dv, e = .returned (.agg #[cv, dv]) ∧ (∀ w'', Keeps (fun b => b < w.heap.size) w' w'' → IsCode w'' w''.heap.size cv code ∧ IsData w'' w''.heap.size dv []) ∧ (∀ S, Keeps S w w')
set_option maxRecDepth 100000 in
set_option maxHeartbeats 4000000 in
theorem put_code (n v : Nat) (w : World) (hn : n ≤ 1024) (h0 : 0 < n) : Calls Try.prog 28 #[.int .i64 (n : Int), .int .u64 (v : Int)] w (Built w (putCode n v)) := by
  have n1 : (n : Int) ≤ 1024 := by omega
  have n2 : (1 : Int) ≤ (n : Int) := by omega
  have HN := Lib.hid (show ((n - 1 : Nat) : Int) = (n : Int) - 1 by omega)
  clear hn h0
  go_enter Try.func28, Try.ntmps28
  go_wp2
  try rw [← HN.out]
  change bodyPost Try.prog _ _ Exit.ret _ ((w.alloc (.cells #[.slice (some ⟨w.heap.size + 1, 0, none⟩) 15 15, .slice none 0 0] 57)).alloc (.cells ((putCode n v).flatMap Ins.cells).toArray 112))
  obtain ⟨r0, r1, hc, hk⟩ := code_end w (putCode n v) 15 rfl
  generalize ((w.alloc (.cells #[.slice (some ⟨w.heap.size + 1, 0, none⟩) 15 15, .slice none 0 0] 57)).alloc (.cells ((putCode n v).flatMap Ins.cells).toArray 112)) = wx at r0 r1 hc hk ⊢
  refine bodyPost_ret (v := .agg #[.slice (some ⟨w.heap.size + 1, 0, none⟩) 15 15, .slice none 0 0]) (by simp [results, Try.results28, go_sem, r0, r1]) rfl ?_
  exact ⟨_, _, rfl, fun w'' kk => ⟨hc w'' kk, ⟨none, 0, rfl, fun k u hk => by simp [u64s] at hk⟩⟩, hk⟩
set_option maxRecDepth 100000 in
set_option maxHeartbeats 4000000 in
theorem take_code (n : Nat) (w : World) (hn : n ≤ 1024) (h0 : 0 < n) : Calls Try.prog 29 #[.int .i64 (n : Int)] w (Built w (takeCode n)) := by
  have n1 : (n : Int) ≤ 1024 := by omega
  have n2 : (1 : Int) ≤ (n : Int) := by omega
  have HN := Lib.hid (show ((n - 1 : Nat) : Int) = (n : Int) - 1 by omega)
  clear hn h0
  go_enter Try.func29, Try.ntmps29
  go_wp2
  try rw [← HN.out]
  change bodyPost Try.prog _ _ Exit.ret _ ((w.alloc (.cells #[.slice (some ⟨w.heap.size + 1, 0, none⟩) 13 13, .slice none 0 0] 57)).alloc (.cells ((takeCode n).flatMap Ins.cells).toArray 112))
  obtain ⟨r0, r1, hc, hk⟩ := code_end w (takeCode n) 13 rfl
  generalize ((w.alloc (.cells #[.slice (some ⟨w.heap.size + 1, 0, none⟩) 13 13, .slice none 0 0] 57)).alloc (.cells ((takeCode n).flatMap Ins.cells).toArray 112)) = wx at r0 r1 hc hk ⊢
  refine bodyPost_ret (v := .agg #[.slice (some ⟨w.heap.size + 1, 0, none⟩) 13 13, .slice none 0 0]) (by simp [results, Try.results29, go_sem, r0, r1]) rfl ?_
  exact ⟨_, _, rfl, fun w'' kk => ⟨hc w'' kk, ⟨none, 0, rfl, fun k u hk => by simp [u64s] at hk⟩⟩, hk⟩
set_option maxRecDepth 100000 in
set_option maxHeartbeats 4000000 in
theorem len_code (n : Nat) (w : World) (hn : n ≤ 1024) (h0 : 0 < n) : Calls Try.prog 30 #[.int .i64 (n : Int)] w (Built w (lenCode n)) := by
  have n1 : (n : Int) ≤ 1024 := by omega
  have n2 : (1 : Int) ≤ (n : Int) := by omega
  have HN := Lib.hid (show ((n - 1 : Nat) : Int) = (n : Int) - 1 by omega)
  clear hn h0
  go_enter Try.func30, Try.ntmps30
  go_wp2
  try rw [← HN.out]
  change bodyPost Try.prog _ _ Exit.ret _ ((w.alloc (.cells #[.slice (some ⟨w.heap.size + 1, 0, none⟩) 7 7, .slice none 0 0] 57)).alloc (.cells ((lenCode n).flatMap Ins.cells).toArray 112))
  obtain ⟨r0, r1, hc, hk⟩ := code_end w (lenCode n) 7 rfl
  generalize ((w.alloc (.cells #[.slice (some ⟨w.heap.size + 1, 0, none⟩) 7 7, .slice none 0 0] 57)).alloc (.cells ((lenCode n).flatMap Ins.cells).toArray 112)) = wx at r0 r1 hc hk ⊢
  refine bodyPost_ret (v := .agg #[.slice (some ⟨w.heap.size + 1, 0, none⟩) 7 7, .slice none 0 0]) (by simp [results, Try.results30, go_sem, r0, r1]) rfl ?_
  exact ⟨_, _, rfl, fun w'' kk => ⟨hc w'' kk, ⟨none, 0, rfl, fun k u hk => by simp [u64s] at hk⟩⟩, hk⟩
end Go.Proofs.Ytmkgjiejkfbdlaa.rf6
