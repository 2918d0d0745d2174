/-
  next: the instruction at which a thread stands.
-/
import Derived.Test.YtgenblefbddilaaMzC
import Derived.Test.YtgenblefbddilaaProg
import Derived.WalkLawsBesides
import Derived.BigRegion
import Derived.BigQuiet
import Derived.Deep.QuietTactic
import Derived.Outline
import Derived.Lib.Hide
import Derived.Laws.Rows
namespace Go.Proofs.Ytgenblefbddilaa.mz
open Go.RowKit Go.Proofs.Ytgenblefbddilaa.oc
set_option maxRecDepth 100000 in
set_option maxHeartbeats 400000 in
theorem next_in (g B : Nat) (w : World) (s : Ts) (h : Thr w g s) (cs : List (List Ins × List Nat)) (hc : IsCalls w B s.calls cs) (c : List Ins × List Nat) (hi : cs[s.call]? = some c) (x : Ins) (hx : c.1[s.at_]? = some x) :
    Calls Try.prog 47 #[.pointer (some ⟨g, 0, none⟩)] w fun e w' => e = .returned x.val ∧ ∀ S, Keeps S w w' := by
  obtain ⟨A, cap, hcv, hf⟩ := hc
  obtain ⟨b, o, cv, dv, rfl, hb, k1, k2, ⟨A2, cap2, rfl, hf2⟩, k4⟩ := hf _ _ hi
  obtain ⟨b2, o2, rfl, hb2, hj⟩ := hf2 _ _ hx
  have i1 : s.call < cs.length := (List.getElem?_eq_some_iff.1 hi).1
  have i2 : s.at_ < c.1.length := (List.getElem?_eq_some_iff.1 hx).1
  obtain ⟨w1, hw1, ks, c1⟩ := enter_blk w #[.int .i64 0, .int .i64 0, .int .i64 0, .int .i64 0, .int .i64 0, .int .i64 0, .int .u64 0] 114
  have h1 : Thr w1 g s := h.keeps (ks (fun _ => False)) (fun x => x)
  have q0 : w1.cell? ⟨g, 0, none⟩ = some (.slice (some ⟨b, o, none⟩) cs.length cap) := by rw [← hcv]; exact h1.calls
  have q1 : w1.cell? ⟨g, 1, none⟩ = some (.int .i64 (s.call : Int)) := h1.call
  have q2 : w1.cell? ⟨g, 2, none⟩ = some (.int .i64 (s.at_ : Int)) := h1.at_
  have q3 : w1.cell? ⟨b, o + s.call * 2, none⟩ = some (.slice (some ⟨b2, o2, none⟩) c.1.length cap2) := cell_keeps (ks (fun _ => False)) k1 (fun z => z)
  have m0 : w1.cell? ⟨b2, o2 + s.at_ * 7, none⟩ = some (.int .i64 (x.op : Int)) := cell_keeps (ks (fun _ => False)) (hj 0 _ rfl) (fun z => z)
  have m1 : w1.cell? ⟨b2, o2 + s.at_ * 7 + 1, none⟩ = some (.int .i64 (x.on : Int)) := cell_keeps (ks (fun _ => False)) (hj 1 _ rfl) (fun z => z)
  have m2 : w1.cell? ⟨b2, o2 + s.at_ * 7 + 2, none⟩ = some (.int .i64 (x.a : Int)) := cell_keeps (ks (fun _ => False)) (hj 2 _ rfl) (fun z => z)
  have m3 : w1.cell? ⟨b2, o2 + s.at_ * 7 + 3, none⟩ = some (.int .i64 (x.b : Int)) := cell_keeps (ks (fun _ => False)) (hj 3 _ rfl) (fun z => z)
  have m4 : w1.cell? ⟨b2, o2 + s.at_ * 7 + 4, none⟩ = some (.int .i64 (x.c : Int)) := cell_keeps (ks (fun _ => False)) (hj 4 _ rfl) (fun z => z)
  have m5 : w1.cell? ⟨b2, o2 + s.at_ * 7 + 5, none⟩ = some (.int .i64 (x.d : Int)) := cell_keeps (ks (fun _ => False)) (hj 5 _ rfl) (fun z => z)
  have m6 : w1.cell? ⟨b2, o2 + s.at_ * 7 + 6, none⟩ = some (.int .u64 (x.n : Int)) := cell_keeps (ks (fun _ => False)) (hj 6 _ rfl) (fun z => z)
  have r0 : w1.cell? ⟨w.heap.size, 0, none⟩ = some (.int .i64 0) := by rw [c1.cell]; rfl
  have f0 : w1.frozen? ⟨w.heap.size, 0, none⟩ = false := c1.frozen 0
  have r1 : w1.cell? ⟨w.heap.size, 1, none⟩ = some (.int .i64 0) := by rw [c1.cell]; rfl
  have f1 : w1.frozen? ⟨w.heap.size, 1, none⟩ = false := c1.frozen 1
  have r2 : w1.cell? ⟨w.heap.size, 2, none⟩ = some (.int .i64 0) := by rw [c1.cell]; rfl
  have f2 : w1.frozen? ⟨w.heap.size, 2, none⟩ = false := c1.frozen 2
  have r3 : w1.cell? ⟨w.heap.size, 3, none⟩ = some (.int .i64 0) := by rw [c1.cell]; rfl
  have f3 : w1.frozen? ⟨w.heap.size, 3, none⟩ = false := c1.frozen 3
  have r4 : w1.cell? ⟨w.heap.size, 4, none⟩ = some (.int .i64 0) := by rw [c1.cell]; rfl
  have f4 : w1.frozen? ⟨w.heap.size, 4, none⟩ = false := c1.frozen 4
  have r5 : w1.cell? ⟨w.heap.size, 5, none⟩ = some (.int .i64 0) := by rw [c1.cell]; rfl
  have f5 : w1.frozen? ⟨w.heap.size, 5, none⟩ = false := c1.frozen 5
  have r6 : w1.cell? ⟨w.heap.size, 6, none⟩ = some (.int .u64 0) := by rw [c1.cell]; rfl
  have f6 : w1.frozen? ⟨w.heap.size, 6, none⟩ = false := c1.frozen 6
  have C1 := Lib.hid c1
  have HW := Lib.hid hw1
  have KS := Lib.hid ks
  clear hw1 ks c1 h hj hf hf2 hi hx k1 k2 k4 hcv h1
  go_enter Try.func47, Try.ntmps47
  go_wp2
  rw [← HW.out]
  clear HW
  go_region
  go_wp2
  refine bodyPost_ret (v := x.val) (by simp [results, Try.results47, go_sem, Ins.val, r0, r1, r2, r3, r4, r5, r6]) rfl ⟨rfl, fun S => ?_⟩
  have k := KS.out S
  repeat (first | (with_reducible exact k) | (with_reducible refine Keeps.drew ?_) | (with_reducible refine Keeps.setCell ?_ (.inr ?_) _; rotate_left; (exact Nat.le_refl _)))
set_option maxRecDepth 100000 in
set_option maxHeartbeats 400000 in
theorem next_out (g B : Nat) (w : World) (s : Ts) (h : Thr w g s) (cs : List (List Ins × List Nat)) (hc : IsCalls w B s.calls cs) (c : List Ins × List Nat) (hi : cs[s.call]? = some c) (hx : c.1.length ≤ s.at_) :
    Calls Try.prog 47 #[.pointer (some ⟨g, 0, none⟩)] w fun e w' => e = .returned Ins.fin.val ∧ ∀ S, Keeps S w w' := by
  obtain ⟨A, cap, hcv, hf⟩ := hc
  obtain ⟨b, o, cv, dv, rfl, hb, k1, k2, ⟨A2, cap2, rfl, hf2⟩, k4⟩ := hf _ _ hi
  have i1 : s.call < cs.length := (List.getElem?_eq_some_iff.1 hi).1
  have hat : (c.1.length : Int) ≤ (s.at_ : Int) := by omega
  obtain ⟨w1, hw1, ks, c1⟩ := enter_blk w #[.int .i64 0, .int .i64 0, .int .i64 0, .int .i64 0, .int .i64 0, .int .i64 0, .int .u64 0] 114
  have h1 : Thr w1 g s := h.keeps (ks (fun _ => False)) (fun x => x)
  have q0 : w1.cell? ⟨g, 0, none⟩ = some (.slice (some ⟨b, o, none⟩) cs.length cap) := by rw [← hcv]; exact h1.calls
  have q1 : w1.cell? ⟨g, 1, none⟩ = some (.int .i64 (s.call : Int)) := h1.call
  have q2 : w1.cell? ⟨g, 2, none⟩ = some (.int .i64 (s.at_ : Int)) := h1.at_
  have q3 : w1.cell? ⟨b, o + s.call * 2, none⟩ = some (.slice A2 c.1.length cap2) := cell_keeps (ks (fun _ => False)) k1 (fun z => z)
  have r0 : w1.cell? ⟨w.heap.size, 0, none⟩ = some (.int .i64 0) := by rw [c1.cell]; rfl
  have f0 : w1.frozen? ⟨w.heap.size, 0, none⟩ = false := c1.frozen 0
  have r1 : w1.cell? ⟨w.heap.size, 1, none⟩ = some (.int .i64 0) := by rw [c1.cell]; rfl
  have f1 : w1.frozen? ⟨w.heap.size, 1, none⟩ = false := c1.frozen 1
  have r2 : w1.cell? ⟨w.heap.size, 2, none⟩ = some (.int .i64 0) := by rw [c1.cell]; rfl
  have f2 : w1.frozen? ⟨w.heap.size, 2, none⟩ = false := c1.frozen 2
  have r3 : w1.cell? ⟨w.heap.size, 3, none⟩ = some (.int .i64 0) := by rw [c1.cell]; rfl
  have f3 : w1.frozen? ⟨w.heap.size, 3, none⟩ = false := c1.frozen 3
  have r4 : w1.cell? ⟨w.heap.size, 4, none⟩ = some (.int .i64 0) := by rw [c1.cell]; rfl
  have f4 : w1.frozen? ⟨w.heap.size, 4, none⟩ = false := c1.frozen 4
  have r5 : w1.cell? ⟨w.heap.size, 5, none⟩ = some (.int .i64 0) := by rw [c1.cell]; rfl
  have f5 : w1.frozen? ⟨w.heap.size, 5, none⟩ = false := c1.frozen 5
  have r6 : w1.cell? ⟨w.heap.size, 6, none⟩ = some (.int .u64 0) := by rw [c1.cell]; rfl
  have f6 : w1.frozen? ⟨w.heap.size, 6, none⟩ = false := c1.frozen 6
  have C1 := Lib.hid c1
  have HW := Lib.hid hw1
  have KS := Lib.hid ks
  clear hw1 ks c1 h hf hf2 hi hx k1 k2 k4 hcv h1
  go_enter Try.func47, Try.ntmps47
  go_wp2
  rw [← HW.out]
  clear HW
  go_region
  go_wp2
  refine bodyPost_ret (v := Ins.fin.val) (by simp [results, Try.results47, go_sem, Ins.val, Ins.fin, r0, r1, r2, r3, r4, r5, r6]) rfl ⟨rfl, fun S => ?_⟩
  have k := KS.out S
  repeat (first | (with_reducible exact k) | (with_reducible refine Keeps.drew ?_) | (with_reducible refine Keeps.setCell ?_ (.inr ?_) _; rotate_left; (exact Nat.le_refl _)))
end Go.Proofs.Ytgenblefbddilaa.mz
