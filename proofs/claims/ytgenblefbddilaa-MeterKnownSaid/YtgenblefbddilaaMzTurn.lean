/-
  The machine's jumps, walked one by one.
-/
import Derived.Test.YtgenblefbddilaaMzB
import Derived.Test.YtgenblefbddilaaProg
import Derived.WalkLawsBesides
import Derived.BigRegion
import Derived.BigQuiet
import Derived.Deep.QuietTactic
import Derived.Outline
import Derived.Lib.Hide
namespace Go.Proofs.Ytgenblefbddilaa.mz
open Go.RowKit Go.Proofs.Ytgenblefbddilaa.oc
set_option maxRecDepth 100000 in
set_option maxHeartbeats 400000 in
theorem turn18 (g on a b c d n A m cap : Nat) (P : Option Addr) (w : World) (s : Ts) (h : Thr w g s) (hn : n < 1000000) (hans : s.ans = .slice (some ⟨A, 0, none⟩) m cap) (hm : s.call < m) :
    Calls Try.prog 56 #[.pointer (some ⟨g, 0, none⟩), .pointer P, .agg #[.int .i64 18, .int .i64 on, .int .i64 a, .int .i64 b, .int .i64 c, .int .i64 d, .int .u64 n]] w fun e w' =>
      e = .returned (.tuple #[]) ∧ Thr w' g { s with at_ := n } ∧ Keeps (· = g) w w' := by
  have hs := h.small
  have hlt := h.blk.lt
  obtain ⟨w1, hw1, k1, c1⟩ := enter_box w #[.int .i64 18, .int .i64 on, .int .i64 a, .int .i64 b, .int .i64 c, .int .i64 d, .int .u64 n] 114
  have h1 : Thr w1 g s := h.keeps (k1 (fun _ => False)) (fun x => x)
  have e0 : w1.cell? ⟨w.heap.size, 0, none⟩ = some (.int .i64 18) := c1 0
  have e6 : w1.cell? ⟨w.heap.size, 6, none⟩ = some (.int .u64 n) := c1 6
  have q1 : w1.cell? ⟨g, 1, none⟩ = some (.int .i64 (s.call : Int)) := h1.call
  have q2 : w1.cell? ⟨g, 2, none⟩ = some (.int .i64 (s.at_ : Int)) := h1.at_
  have q27 : w1.cell? ⟨g, 27, none⟩ = some (.slice (some ⟨A, 0, none⟩) m cap) := by rw [← hans]; exact h1.ans
  have f2 := h1.frozen 2
  have HW := Lib.hid hw1
  have H1 := Lib.hid h1
  have K1 := Lib.hid k1
  have HS := Lib.hid hs
  have HA := Lib.hid hans
  clear hw1 h1 k1 c1 h hs hans
  go_enter Try.func56, Try.ntmps56
  go_wp2
  rw [← HW.out]
  clear HW
  go_region
  go_wp2
  go_end0
  exact ⟨rfl, by first | exact (H1.out.goto n) | exact (H1.out.goto n).drew | exact ((H1.out.drew).goto n) | exact ((H1.out.drew).goto n).drew | exact (((H1.out.drew).drew).goto n), by first | exact ((K1.out (· = g)).setCell (p := ⟨g, 2, none⟩) (.inl rfl) _) | exact ((K1.out (· = g)).drew.setCell (p := ⟨g, 2, none⟩) (.inl rfl) _) | exact ((K1.out (· = g)).drew.drew.setCell (p := ⟨g, 2, none⟩) (.inl rfl) _)⟩
set_option maxRecDepth 100000 in
set_option maxHeartbeats 400000 in
theorem turn19y (g on a b c d n A m cap : Nat) (P : Option Addr) (w : World) (s : Ts) (h : Thr w g s) (ha : a < 24) (hb : b < 24) (hn : n < 1000000) (hans : s.ans = .slice (some ⟨A, 0, none⟩) m cap) (hm : s.call < m) (hc : reg s.rs a = reg s.rs b) :
    Calls Try.prog 56 #[.pointer (some ⟨g, 0, none⟩), .pointer P, .agg #[.int .i64 19, .int .i64 on, .int .i64 a, .int .i64 b, .int .i64 c, .int .i64 d, .int .u64 n]] w fun e w' =>
      e = .returned (.tuple #[]) ∧ Thr w' g { s with at_ := n } ∧ Keeps (· = g) w w' := by
  have hs := h.small
  have hlt := h.blk.lt
  obtain ⟨w1, hw1, k1, c1⟩ := enter_box w #[.int .i64 19, .int .i64 on, .int .i64 a, .int .i64 b, .int .i64 c, .int .i64 d, .int .u64 n] 114
  have h1 : Thr w1 g s := h.keeps (k1 (fun _ => False)) (fun x => x)
  have e0 : w1.cell? ⟨w.heap.size, 0, none⟩ = some (.int .i64 19) := c1 0
  have e2 : w1.cell? ⟨w.heap.size, 2, none⟩ = some (.int .i64 a) := c1 2
  have e3 : w1.cell? ⟨w.heap.size, 3, none⟩ = some (.int .i64 b) := c1 3
  have e6 : w1.cell? ⟨w.heap.size, 6, none⟩ = some (.int .u64 n) := c1 6
  have hra : w1.cell? ⟨g, 3 + a, none⟩ = some (.int .u64 (reg s.rs a : Int)) := h1.reg ha
  have hrb : w1.cell? ⟨g, 3 + b, none⟩ = some (.int .u64 (reg s.rs b : Int)) := h1.reg hb
  have q1 : w1.cell? ⟨g, 1, none⟩ = some (.int .i64 (s.call : Int)) := h1.call
  have q2 : w1.cell? ⟨g, 2, none⟩ = some (.int .i64 (s.at_ : Int)) := h1.at_
  have q27 : w1.cell? ⟨g, 27, none⟩ = some (.slice (some ⟨A, 0, none⟩) m cap) := by rw [← hans]; exact h1.ans
  have f2 := h1.frozen 2
  have hd : (((reg s.rs a : Nat) : Int) == ((reg s.rs b : Nat) : Int)) = true := by rw [hc]; exact beq_self_eq_true _
  have HC := Lib.hid hc
  clear hc
  have HW := Lib.hid hw1
  have H1 := Lib.hid h1
  have K1 := Lib.hid k1
  have HS := Lib.hid hs
  have HA := Lib.hid hans
  clear hw1 h1 k1 c1 h hs hans
  go_enter Try.func56, Try.ntmps56
  go_wp2
  rw [← HW.out]
  clear HW
  go_region
  go_wp2
  go_region
  go_wp2
  go_end0
  exact ⟨rfl, by first | exact (H1.out.goto n) | exact (H1.out.goto n).drew | exact ((H1.out.drew).goto n) | exact ((H1.out.drew).goto n).drew | exact (((H1.out.drew).drew).goto n), by first | exact ((K1.out (· = g)).setCell (p := ⟨g, 2, none⟩) (.inl rfl) _) | exact ((K1.out (· = g)).drew.setCell (p := ⟨g, 2, none⟩) (.inl rfl) _) | exact ((K1.out (· = g)).drew.drew.setCell (p := ⟨g, 2, none⟩) (.inl rfl) _)⟩
set_option maxRecDepth 100000 in
set_option maxHeartbeats 400000 in
theorem turn19n (g on a b c d n A m cap : Nat) (P : Option Addr) (w : World) (s : Ts) (h : Thr w g s) (ha : a < 24) (hb : b < 24) (hans : s.ans = .slice (some ⟨A, 0, none⟩) m cap) (hm : s.call < m) (hc : ¬ reg s.rs a = reg s.rs b) :
    Calls Try.prog 56 #[.pointer (some ⟨g, 0, none⟩), .pointer P, .agg #[.int .i64 19, .int .i64 on, .int .i64 a, .int .i64 b, .int .i64 c, .int .i64 d, .int .u64 n]] w fun e w' =>
      e = .returned (.tuple #[]) ∧ Thr w' g { s with at_ := s.at_ } ∧ Keeps (· = g) w w' := by
  have hs := h.small
  have hlt := h.blk.lt
  obtain ⟨w1, hw1, k1, c1⟩ := enter_box w #[.int .i64 19, .int .i64 on, .int .i64 a, .int .i64 b, .int .i64 c, .int .i64 d, .int .u64 n] 114
  have h1 : Thr w1 g s := h.keeps (k1 (fun _ => False)) (fun x => x)
  have e0 : w1.cell? ⟨w.heap.size, 0, none⟩ = some (.int .i64 19) := c1 0
  have e2 : w1.cell? ⟨w.heap.size, 2, none⟩ = some (.int .i64 a) := c1 2
  have e3 : w1.cell? ⟨w.heap.size, 3, none⟩ = some (.int .i64 b) := c1 3
  have hra : w1.cell? ⟨g, 3 + a, none⟩ = some (.int .u64 (reg s.rs a : Int)) := h1.reg ha
  have hrb : w1.cell? ⟨g, 3 + b, none⟩ = some (.int .u64 (reg s.rs b : Int)) := h1.reg hb
  have q1 : w1.cell? ⟨g, 1, none⟩ = some (.int .i64 (s.call : Int)) := h1.call
  have q2 : w1.cell? ⟨g, 2, none⟩ = some (.int .i64 (s.at_ : Int)) := h1.at_
  have q27 : w1.cell? ⟨g, 27, none⟩ = some (.slice (some ⟨A, 0, none⟩) m cap) := by rw [← hans]; exact h1.ans
  have f2 := h1.frozen 2
  have hd : (((reg s.rs a : Nat) : Int) == ((reg s.rs b : Nat) : Int)) = false := by simpa using (fun e => hc (Int.ofNat.inj e))
  have HC := Lib.hid hc
  clear hc
  have HW := Lib.hid hw1
  have H1 := Lib.hid h1
  have K1 := Lib.hid k1
  have HS := Lib.hid hs
  have HA := Lib.hid hans
  clear hw1 h1 k1 c1 h hs hans
  go_enter Try.func56, Try.ntmps56
  go_wp2
  rw [← HW.out]
  clear HW
  go_region
  go_wp2
  go_region
  go_wp2
  go_end0
  exact ⟨rfl, by first | exact H1.out.drew.drew | exact H1.out.drew | exact H1.out, by first | exact (K1.out _).drew.drew | exact (K1.out _).drew | exact K1.out _⟩
set_option maxRecDepth 100000 in
set_option maxHeartbeats 400000 in
theorem turn20y (g on a b c d n A m cap : Nat) (P : Option Addr) (w : World) (s : Ts) (h : Thr w g s) (ha : a < 24) (hb : b < 24) (hn : n < 1000000) (hans : s.ans = .slice (some ⟨A, 0, none⟩) m cap) (hm : s.call < m) (hc : reg s.rs a < reg s.rs b) :
    Calls Try.prog 56 #[.pointer (some ⟨g, 0, none⟩), .pointer P, .agg #[.int .i64 20, .int .i64 on, .int .i64 a, .int .i64 b, .int .i64 c, .int .i64 d, .int .u64 n]] w fun e w' =>
      e = .returned (.tuple #[]) ∧ Thr w' g { s with at_ := n } ∧ Keeps (· = g) w w' := by
  have hs := h.small
  have hlt := h.blk.lt
  obtain ⟨w1, hw1, k1, c1⟩ := enter_box w #[.int .i64 20, .int .i64 on, .int .i64 a, .int .i64 b, .int .i64 c, .int .i64 d, .int .u64 n] 114
  have h1 : Thr w1 g s := h.keeps (k1 (fun _ => False)) (fun x => x)
  have e0 : w1.cell? ⟨w.heap.size, 0, none⟩ = some (.int .i64 20) := c1 0
  have e2 : w1.cell? ⟨w.heap.size, 2, none⟩ = some (.int .i64 a) := c1 2
  have e3 : w1.cell? ⟨w.heap.size, 3, none⟩ = some (.int .i64 b) := c1 3
  have e6 : w1.cell? ⟨w.heap.size, 6, none⟩ = some (.int .u64 n) := c1 6
  have hra : w1.cell? ⟨g, 3 + a, none⟩ = some (.int .u64 (reg s.rs a : Int)) := h1.reg ha
  have hrb : w1.cell? ⟨g, 3 + b, none⟩ = some (.int .u64 (reg s.rs b : Int)) := h1.reg hb
  have q1 : w1.cell? ⟨g, 1, none⟩ = some (.int .i64 (s.call : Int)) := h1.call
  have q2 : w1.cell? ⟨g, 2, none⟩ = some (.int .i64 (s.at_ : Int)) := h1.at_
  have q27 : w1.cell? ⟨g, 27, none⟩ = some (.slice (some ⟨A, 0, none⟩) m cap) := by rw [← hans]; exact h1.ans
  have f2 := h1.frozen 2
  have HW := Lib.hid hw1
  have H1 := Lib.hid h1
  have K1 := Lib.hid k1
  have HS := Lib.hid hs
  have HA := Lib.hid hans
  clear hw1 h1 k1 c1 h hs hans
  go_enter Try.func56, Try.ntmps56
  go_wp2
  rw [← HW.out]
  clear HW
  go_region
  go_wp2
  go_region
  go_wp2
  go_end0
  exact ⟨rfl, by first | exact (H1.out.goto n) | exact (H1.out.goto n).drew | exact ((H1.out.drew).goto n) | exact ((H1.out.drew).goto n).drew | exact (((H1.out.drew).drew).goto n), by first | exact ((K1.out (· = g)).setCell (p := ⟨g, 2, none⟩) (.inl rfl) _) | exact ((K1.out (· = g)).drew.setCell (p := ⟨g, 2, none⟩) (.inl rfl) _) | exact ((K1.out (· = g)).drew.drew.setCell (p := ⟨g, 2, none⟩) (.inl rfl) _)⟩
set_option maxRecDepth 100000 in
set_option maxHeartbeats 400000 in
theorem turn20n (g on a b c d n A m cap : Nat) (P : Option Addr) (w : World) (s : Ts) (h : Thr w g s) (ha : a < 24) (hb : b < 24) (hans : s.ans = .slice (some ⟨A, 0, none⟩) m cap) (hm : s.call < m) (hc : ¬ reg s.rs a < reg s.rs b) :
    Calls Try.prog 56 #[.pointer (some ⟨g, 0, none⟩), .pointer P, .agg #[.int .i64 20, .int .i64 on, .int .i64 a, .int .i64 b, .int .i64 c, .int .i64 d, .int .u64 n]] w fun e w' =>
      e = .returned (.tuple #[]) ∧ Thr w' g { s with at_ := s.at_ } ∧ Keeps (· = g) w w' := by
  have hs := h.small
  have hlt := h.blk.lt
  obtain ⟨w1, hw1, k1, c1⟩ := enter_box w #[.int .i64 20, .int .i64 on, .int .i64 a, .int .i64 b, .int .i64 c, .int .i64 d, .int .u64 n] 114
  have h1 : Thr w1 g s := h.keeps (k1 (fun _ => False)) (fun x => x)
  have e0 : w1.cell? ⟨w.heap.size, 0, none⟩ = some (.int .i64 20) := c1 0
  have e2 : w1.cell? ⟨w.heap.size, 2, none⟩ = some (.int .i64 a) := c1 2
  have e3 : w1.cell? ⟨w.heap.size, 3, none⟩ = some (.int .i64 b) := c1 3
  have hra : w1.cell? ⟨g, 3 + a, none⟩ = some (.int .u64 (reg s.rs a : Int)) := h1.reg ha
  have hrb : w1.cell? ⟨g, 3 + b, none⟩ = some (.int .u64 (reg s.rs b : Int)) := h1.reg hb
  have q1 : w1.cell? ⟨g, 1, none⟩ = some (.int .i64 (s.call : Int)) := h1.call
  have q2 : w1.cell? ⟨g, 2, none⟩ = some (.int .i64 (s.at_ : Int)) := h1.at_
  have q27 : w1.cell? ⟨g, 27, none⟩ = some (.slice (some ⟨A, 0, none⟩) m cap) := by rw [← hans]; exact h1.ans
  have f2 := h1.frozen 2
  have HW := Lib.hid hw1
  have H1 := Lib.hid h1
  have K1 := Lib.hid k1
  have HS := Lib.hid hs
  have HA := Lib.hid hans
  clear hw1 h1 k1 c1 h hs hans
  go_enter Try.func56, Try.ntmps56
  go_wp2
  rw [← HW.out]
  clear HW
  go_region
  go_wp2
  go_region
  go_wp2
  go_end0
  exact ⟨rfl, by first | exact H1.out.drew.drew | exact H1.out.drew | exact H1.out, by first | exact (K1.out _).drew.drew | exact (K1.out _).drew | exact K1.out _⟩
set_option maxRecDepth 100000 in
set_option maxHeartbeats 400000 in
theorem turn21y (g on a b c d n A m cap : Nat) (P : Option Addr) (w : World) (s : Ts) (h : Thr w g s) (ha : a < 24) (hn : n < 1000000) (hans : s.ans = .slice (some ⟨A, 0, none⟩) m cap) (hm : s.call < m) (hc : reg s.rs a / 9223372036854775808 = 1) :
    Calls Try.prog 56 #[.pointer (some ⟨g, 0, none⟩), .pointer P, .agg #[.int .i64 21, .int .i64 on, .int .i64 a, .int .i64 b, .int .i64 c, .int .i64 d, .int .u64 n]] w fun e w' =>
      e = .returned (.tuple #[]) ∧ Thr w' g { s with at_ := n } ∧ Keeps (· = g) w w' := by
  have hs := h.small
  have hlt := h.blk.lt
  obtain ⟨w1, hw1, k1, c1⟩ := enter_box w #[.int .i64 21, .int .i64 on, .int .i64 a, .int .i64 b, .int .i64 c, .int .i64 d, .int .u64 n] 114
  have h1 : Thr w1 g s := h.keeps (k1 (fun _ => False)) (fun x => x)
  have e0 : w1.cell? ⟨w.heap.size, 0, none⟩ = some (.int .i64 21) := c1 0
  have e2 : w1.cell? ⟨w.heap.size, 2, none⟩ = some (.int .i64 a) := c1 2
  have e6 : w1.cell? ⟨w.heap.size, 6, none⟩ = some (.int .u64 n) := c1 6
  have hra : w1.cell? ⟨g, 3 + a, none⟩ = some (.int .u64 (reg s.rs a : Int)) := h1.reg ha
  have q1 : w1.cell? ⟨g, 1, none⟩ = some (.int .i64 (s.call : Int)) := h1.call
  have q2 : w1.cell? ⟨g, 2, none⟩ = some (.int .i64 (s.at_ : Int)) := h1.at_
  have q27 : w1.cell? ⟨g, 27, none⟩ = some (.slice (some ⟨A, 0, none⟩) m cap) := by rw [← hans]; exact h1.ans
  have f2 := h1.frozen 2
  have hd : ((((reg s.rs a : Nat) : Int) / 9223372036854775808) == 1) = true := by simp; omega
  have HC := Lib.hid hc
  clear hc
  have HW := Lib.hid hw1
  have H1 := Lib.hid h1
  have K1 := Lib.hid k1
  have HS := Lib.hid hs
  have HA := Lib.hid hans
  clear hw1 h1 k1 c1 h hs hans
  go_enter Try.func56, Try.ntmps56
  go_wp2
  rw [← HW.out]
  clear HW
  go_region
  go_wp2
  go_region
  go_wp2
  go_end0
  exact ⟨rfl, by first | exact (H1.out.goto n) | exact (H1.out.goto n).drew | exact ((H1.out.drew).goto n) | exact ((H1.out.drew).goto n).drew | exact (((H1.out.drew).drew).goto n), by first | exact ((K1.out (· = g)).setCell (p := ⟨g, 2, none⟩) (.inl rfl) _) | exact ((K1.out (· = g)).drew.setCell (p := ⟨g, 2, none⟩) (.inl rfl) _) | exact ((K1.out (· = g)).drew.drew.setCell (p := ⟨g, 2, none⟩) (.inl rfl) _)⟩
set_option maxRecDepth 100000 in
set_option maxHeartbeats 400000 in
theorem turn21n (g on a b c d n A m cap : Nat) (P : Option Addr) (w : World) (s : Ts) (h : Thr w g s) (ha : a < 24) (hans : s.ans = .slice (some ⟨A, 0, none⟩) m cap) (hm : s.call < m) (hc : ¬ reg s.rs a / 9223372036854775808 = 1) :
    Calls Try.prog 56 #[.pointer (some ⟨g, 0, none⟩), .pointer P, .agg #[.int .i64 21, .int .i64 on, .int .i64 a, .int .i64 b, .int .i64 c, .int .i64 d, .int .u64 n]] w fun e w' =>
      e = .returned (.tuple #[]) ∧ Thr w' g { s with at_ := s.at_ } ∧ Keeps (· = g) w w' := by
  have hs := h.small
  have hlt := h.blk.lt
  obtain ⟨w1, hw1, k1, c1⟩ := enter_box w #[.int .i64 21, .int .i64 on, .int .i64 a, .int .i64 b, .int .i64 c, .int .i64 d, .int .u64 n] 114
  have h1 : Thr w1 g s := h.keeps (k1 (fun _ => False)) (fun x => x)
  have e0 : w1.cell? ⟨w.heap.size, 0, none⟩ = some (.int .i64 21) := c1 0
  have e2 : w1.cell? ⟨w.heap.size, 2, none⟩ = some (.int .i64 a) := c1 2
  have hra : w1.cell? ⟨g, 3 + a, none⟩ = some (.int .u64 (reg s.rs a : Int)) := h1.reg ha
  have q1 : w1.cell? ⟨g, 1, none⟩ = some (.int .i64 (s.call : Int)) := h1.call
  have q2 : w1.cell? ⟨g, 2, none⟩ = some (.int .i64 (s.at_ : Int)) := h1.at_
  have q27 : w1.cell? ⟨g, 27, none⟩ = some (.slice (some ⟨A, 0, none⟩) m cap) := by rw [← hans]; exact h1.ans
  have f2 := h1.frozen 2
  have hd : ((((reg s.rs a : Nat) : Int) / 9223372036854775808) == 1) = false := by simp; omega
  have HC := Lib.hid hc
  clear hc
  have HW := Lib.hid hw1
  have H1 := Lib.hid h1
  have K1 := Lib.hid k1
  have HS := Lib.hid hs
  have HA := Lib.hid hans
  clear hw1 h1 k1 c1 h hs hans
  go_enter Try.func56, Try.ntmps56
  go_wp2
  rw [← HW.out]
  clear HW
  go_region
  go_wp2
  go_region
  go_wp2
  go_end0
  exact ⟨rfl, by first | exact H1.out.drew.drew | exact H1.out.drew | exact H1.out, by first | exact (K1.out _).drew.drew | exact (K1.out _).drew | exact K1.out _⟩
end Go.Proofs.Ytgenblefbddilaa.mz
