/-
  The machine's own instructions that write a register, walked one by one.
-/
import Derived.Test.YtgenblefbddilaaMzB
import Derived.Test.YtgenblefbddilaaProg
import Derived.WalkLawsBesides
import Derived.BigRegion
import Derived.BigQuiet
import Derived.Deep.QuietTactic
import Derived.Outline
import Derived.Lib.Hide
namespace Go.Proofs.Ytgenblefbddilaa.mz
open Go.RowKit Go.Proofs.Ytgenblefbddilaa.oc
set_option maxRecDepth 100000 in
set_option maxHeartbeats 400000 in
theorem own6 (g on a b c d n : Nat) (P : Option Addr) (w : World) (s : Ts) (h : Thr w g s) (ha : a < 24) (hn : n < 18446744073709551616) (hat : s.at_ < 1000000) :
    Calls Try.prog 49 #[.pointer (some ⟨g, 0, none⟩), .pointer P, .agg #[.int .i64 6, .int .i64 on, .int .i64 a, .int .i64 b, .int .i64 c, .int .i64 d, .int .u64 n]] w fun e w' =>
      e = .returned (.tuple #[]) ∧ Thr w' g { s with at_ := s.at_ + 1, rs := s.rs.set a (n) } ∧ Keeps (· = g) w w' := by
  have h2 := h.at_
  have f2 := h.frozen 2
  have hs := h.small
  have hlt := h.blk.lt
  obtain ⟨w1, hw1, h1, k1, c1⟩ := enter_own h #[.int .i64 6, .int .i64 on, .int .i64 a, .int .i64 b, .int .i64 c, .int .i64 d, .int .u64 n] 114
  have e2 : w1.cell? ⟨w.heap.size, 2, none⟩ = some (.int .i64 a) := c1 2
  have e6 : w1.cell? ⟨w.heap.size, 6, none⟩ = some (.int .u64 n) := c1 6
  have hra : w1.cell? ⟨g, 3 + a, none⟩ = some (.int .u64 (reg s.rs a : Int)) := h1.reg ha
  have fa := h1.frozen (3 + a)
  have HW := Lib.hid hw1
  have H1 := Lib.hid h1
  have K1 := Lib.hid k1
  have HS := Lib.hid hs
  clear hw1 h1 k1 c1 h hs
  go_enter Try.func49, Try.ntmps49
  go_wp2
  rw [← HW.out]
  clear HW h2 f2
  go_region
  go_wp2
  go_end0
  have hs := HS.out
  exact ⟨rfl, (H1.out.put ha (hn)).drew, (K1.out.setCell (.inl rfl) _).drew⟩
set_option maxRecDepth 100000 in
set_option maxHeartbeats 400000 in
theorem own7 (g on a b c d n : Nat) (P : Option Addr) (w : World) (s : Ts) (h : Thr w g s) (ha : a < 24) (hb : b < 24) (hat : s.at_ < 1000000) :
    Calls Try.prog 49 #[.pointer (some ⟨g, 0, none⟩), .pointer P, .agg #[.int .i64 7, .int .i64 on, .int .i64 a, .int .i64 b, .int .i64 c, .int .i64 d, .int .u64 n]] w fun e w' =>
      e = .returned (.tuple #[]) ∧ Thr w' g { s with at_ := s.at_ + 1, rs := s.rs.set a (reg s.rs b) } ∧ Keeps (· = g) w w' := by
  have h2 := h.at_
  have f2 := h.frozen 2
  have hs := h.small
  have hlt := h.blk.lt
  obtain ⟨w1, hw1, h1, k1, c1⟩ := enter_own h #[.int .i64 7, .int .i64 on, .int .i64 a, .int .i64 b, .int .i64 c, .int .i64 d, .int .u64 n] 114
  have e2 : w1.cell? ⟨w.heap.size, 2, none⟩ = some (.int .i64 a) := c1 2
  have e3 : w1.cell? ⟨w.heap.size, 3, none⟩ = some (.int .i64 b) := c1 3
  have hra : w1.cell? ⟨g, 3 + a, none⟩ = some (.int .u64 (reg s.rs a : Int)) := h1.reg ha
  have hrb : w1.cell? ⟨g, 3 + b, none⟩ = some (.int .u64 (reg s.rs b : Int)) := h1.reg hb
  have fa := h1.frozen (3 + a)
  have HW := Lib.hid hw1
  have H1 := Lib.hid h1
  have K1 := Lib.hid k1
  have HS := Lib.hid hs
  clear hw1 h1 k1 c1 h hs
  go_enter Try.func49, Try.ntmps49
  go_wp2
  rw [← HW.out]
  clear HW h2 f2
  go_region
  go_wp2
  go_end0
  have hs := HS.out
  exact ⟨rfl, (H1.out.put ha (reg_lt hs b)).drew, (K1.out.setCell (.inl rfl) _).drew⟩
set_option maxRecDepth 100000 in
set_option maxHeartbeats 400000 in
theorem own8 (g on a b c d n : Nat) (P : Option Addr) (w : World) (s : Ts) (h : Thr w g s) (ha : a < 24) (hb : b < 24) (hc : c < 24) (hat : s.at_ < 1000000) :
    Calls Try.prog 49 #[.pointer (some ⟨g, 0, none⟩), .pointer P, .agg #[.int .i64 8, .int .i64 on, .int .i64 a, .int .i64 b, .int .i64 c, .int .i64 d, .int .u64 n]] w fun e w' =>
      e = .returned (.tuple #[]) ∧ Thr w' g { s with at_ := s.at_ + 1, rs := s.rs.set a ((reg s.rs b + reg s.rs c + n) % W64) } ∧ Keeps (· = g) w w' := by
  have h2 := h.at_
  have f2 := h.frozen 2
  have hs := h.small
  have hlt := h.blk.lt
  obtain ⟨w1, hw1, h1, k1, c1⟩ := enter_own h #[.int .i64 8, .int .i64 on, .int .i64 a, .int .i64 b, .int .i64 c, .int .i64 d, .int .u64 n] 114
  have e2 : w1.cell? ⟨w.heap.size, 2, none⟩ = some (.int .i64 a) := c1 2
  have e3 : w1.cell? ⟨w.heap.size, 3, none⟩ = some (.int .i64 b) := c1 3
  have e4 : w1.cell? ⟨w.heap.size, 4, none⟩ = some (.int .i64 c) := c1 4
  have e6 : w1.cell? ⟨w.heap.size, 6, none⟩ = some (.int .u64 n) := c1 6
  have hra : w1.cell? ⟨g, 3 + a, none⟩ = some (.int .u64 (reg s.rs a : Int)) := h1.reg ha
  have hrb : w1.cell? ⟨g, 3 + b, none⟩ = some (.int .u64 (reg s.rs b : Int)) := h1.reg hb
  have hrc : w1.cell? ⟨g, 3 + c, none⟩ = some (.int .u64 (reg s.rs c : Int)) := h1.reg hc
  have fa := h1.frozen (3 + a)
  have HW := Lib.hid hw1
  have H1 := Lib.hid h1
  have K1 := Lib.hid k1
  have HS := Lib.hid hs
  clear hw1 h1 k1 c1 h hs
  go_enter Try.func49, Try.ntmps49
  go_wp2
  rw [← HW.out]
  clear HW h2 f2
  go_region
  go_wp2
  go_end0
  have hs := HS.out
  rw [wrap_add3]
  exact ⟨rfl, (H1.out.put ha (mod_lt64 _)).drew, (K1.out.setCell (.inl rfl) _).drew⟩
set_option maxRecDepth 100000 in
set_option maxHeartbeats 400000 in
theorem own9 (g on a b c d n : Nat) (P : Option Addr) (w : World) (s : Ts) (h : Thr w g s) (ha : a < 24) (hb : b < 24) (hc : c < 24) (hat : s.at_ < 1000000) :
    Calls Try.prog 49 #[.pointer (some ⟨g, 0, none⟩), .pointer P, .agg #[.int .i64 9, .int .i64 on, .int .i64 a, .int .i64 b, .int .i64 c, .int .i64 d, .int .u64 n]] w fun e w' =>
      e = .returned (.tuple #[]) ∧ Thr w' g { s with at_ := s.at_ + 1, rs := s.rs.set a ((reg s.rs b + (W64 - reg s.rs c)) % W64) } ∧ Keeps (· = g) w w' := by
  have h2 := h.at_
  have f2 := h.frozen 2
  have hs := h.small
  have hlt := h.blk.lt
  obtain ⟨w1, hw1, h1, k1, c1⟩ := enter_own h #[.int .i64 9, .int .i64 on, .int .i64 a, .int .i64 b, .int .i64 c, .int .i64 d, .int .u64 n] 114
  have e2 : w1.cell? ⟨w.heap.size, 2, none⟩ = some (.int .i64 a) := c1 2
  have e3 : w1.cell? ⟨w.heap.size, 3, none⟩ = some (.int .i64 b) := c1 3
  have e4 : w1.cell? ⟨w.heap.size, 4, none⟩ = some (.int .i64 c) := c1 4
  have hra : w1.cell? ⟨g, 3 + a, none⟩ = some (.int .u64 (reg s.rs a : Int)) := h1.reg ha
  have hrb : w1.cell? ⟨g, 3 + b, none⟩ = some (.int .u64 (reg s.rs b : Int)) := h1.reg hb
  have hrc : w1.cell? ⟨g, 3 + c, none⟩ = some (.int .u64 (reg s.rs c : Int)) := h1.reg hc
  have fa := h1.frozen (3 + a)
  have HW := Lib.hid hw1
  have H1 := Lib.hid h1
  have K1 := Lib.hid k1
  have HS := Lib.hid hs
  clear hw1 h1 k1 c1 h hs
  go_enter Try.func49, Try.ntmps49
  go_wp2
  rw [← HW.out]
  clear HW h2 f2
  go_region
  go_wp2
  go_end0
  have hs := HS.out
  rw [wrap_sub _ _ (reg_lt hs c)]
  exact ⟨rfl, (H1.out.put ha (mod_lt64 _)).drew, (K1.out.setCell (.inl rfl) _).drew⟩
set_option maxRecDepth 100000 in
set_option maxHeartbeats 400000 in
theorem own10 (g on a b c d n : Nat) (P : Option Addr) (w : World) (s : Ts) (h : Thr w g s) (ha : a < 24) (hb : b < 24) (hc : c < 24) (hat : s.at_ < 1000000) :
    Calls Try.prog 49 #[.pointer (some ⟨g, 0, none⟩), .pointer P, .agg #[.int .i64 10, .int .i64 on, .int .i64 a, .int .i64 b, .int .i64 c, .int .i64 d, .int .u64 n]] w fun e w' =>
      e = .returned (.tuple #[]) ∧ Thr w' g { s with at_ := s.at_ + 1, rs := s.rs.set a ((reg s.rs b * reg s.rs c) % W64) } ∧ Keeps (· = g) w w' := by
  have h2 := h.at_
  have f2 := h.frozen 2
  have hs := h.small
  have hlt := h.blk.lt
  obtain ⟨w1, hw1, h1, k1, c1⟩ := enter_own h #[.int .i64 10, .int .i64 on, .int .i64 a, .int .i64 b, .int .i64 c, .int .i64 d, .int .u64 n] 114
  have e2 : w1.cell? ⟨w.heap.size, 2, none⟩ = some (.int .i64 a) := c1 2
  have e3 : w1.cell? ⟨w.heap.size, 3, none⟩ = some (.int .i64 b) := c1 3
  have e4 : w1.cell? ⟨w.heap.size, 4, none⟩ = some (.int .i64 c) := c1 4
  have hra : w1.cell? ⟨g, 3 + a, none⟩ = some (.int .u64 (reg s.rs a : Int)) := h1.reg ha
  have hrb : w1.cell? ⟨g, 3 + b, none⟩ = some (.int .u64 (reg s.rs b : Int)) := h1.reg hb
  have hrc : w1.cell? ⟨g, 3 + c, none⟩ = some (.int .u64 (reg s.rs c : Int)) := h1.reg hc
  have fa := h1.frozen (3 + a)
  have HW := Lib.hid hw1
  have H1 := Lib.hid h1
  have K1 := Lib.hid k1
  have HS := Lib.hid hs
  clear hw1 h1 k1 c1 h hs
  go_enter Try.func49, Try.ntmps49
  go_wp2
  rw [← HW.out]
  clear HW h2 f2
  go_region
  go_wp2
  go_end0
  have hs := HS.out
  rw [wrap_mul]
  exact ⟨rfl, (H1.out.put ha (mod_lt64 _)).drew, (K1.out.setCell (.inl rfl) _).drew⟩
set_option maxRecDepth 100000 in
set_option maxHeartbeats 400000 in
theorem own12 (g on a b c d n : Nat) (P : Option Addr) (w : World) (s : Ts) (h : Thr w g s) (ha : a < 24) (hb : b < 24) (hc : c < 24) (hat : s.at_ < 1000000) :
    Calls Try.prog 49 #[.pointer (some ⟨g, 0, none⟩), .pointer P, .agg #[.int .i64 12, .int .i64 on, .int .i64 a, .int .i64 b, .int .i64 c, .int .i64 d, .int .u64 n]] w fun e w' =>
      e = .returned (.tuple #[]) ∧ Thr w' g { s with at_ := s.at_ + 1, rs := s.rs.set a (reg s.rs b &&& reg s.rs c) } ∧ Keeps (· = g) w w' := by
  have h2 := h.at_
  have f2 := h.frozen 2
  have hs := h.small
  have hlt := h.blk.lt
  obtain ⟨w1, hw1, h1, k1, c1⟩ := enter_own h #[.int .i64 12, .int .i64 on, .int .i64 a, .int .i64 b, .int .i64 c, .int .i64 d, .int .u64 n] 114
  have e2 : w1.cell? ⟨w.heap.size, 2, none⟩ = some (.int .i64 a) := c1 2
  have e3 : w1.cell? ⟨w.heap.size, 3, none⟩ = some (.int .i64 b) := c1 3
  have e4 : w1.cell? ⟨w.heap.size, 4, none⟩ = some (.int .i64 c) := c1 4
  have hra : w1.cell? ⟨g, 3 + a, none⟩ = some (.int .u64 (reg s.rs a : Int)) := h1.reg ha
  have hrb : w1.cell? ⟨g, 3 + b, none⟩ = some (.int .u64 (reg s.rs b : Int)) := h1.reg hb
  have hrc : w1.cell? ⟨g, 3 + c, none⟩ = some (.int .u64 (reg s.rs c : Int)) := h1.reg hc
  have fa := h1.frozen (3 + a)
  have HW := Lib.hid hw1
  have H1 := Lib.hid h1
  have K1 := Lib.hid k1
  have HS := Lib.hid hs
  clear hw1 h1 k1 c1 h hs
  go_enter Try.func49, Try.ntmps49
  go_wp2
  rw [← HW.out]
  clear HW h2 f2
  go_region
  go_wp2
  go_end0
  have hs := HS.out
  rw [u64_and_nat _ _ (reg_lt hs b) (reg_lt hs c)]
  exact ⟨rfl, (H1.out.put ha (and_lt64 _ (reg_lt hs b))).drew, (K1.out.setCell (.inl rfl) _).drew⟩
set_option maxRecDepth 100000 in
set_option maxHeartbeats 400000 in
theorem own13 (g on a b c d n : Nat) (P : Option Addr) (w : World) (s : Ts) (h : Thr w g s) (ha : a < 24) (hb : b < 24) (hc : c < 24) (hat : s.at_ < 1000000) :
    Calls Try.prog 49 #[.pointer (some ⟨g, 0, none⟩), .pointer P, .agg #[.int .i64 13, .int .i64 on, .int .i64 a, .int .i64 b, .int .i64 c, .int .i64 d, .int .u64 n]] w fun e w' =>
      e = .returned (.tuple #[]) ∧ Thr w' g { s with at_ := s.at_ + 1, rs := s.rs.set a (reg s.rs b ||| reg s.rs c) } ∧ Keeps (· = g) w w' := by
  have h2 := h.at_
  have f2 := h.frozen 2
  have hs := h.small
  have hlt := h.blk.lt
  obtain ⟨w1, hw1, h1, k1, c1⟩ := enter_own h #[.int .i64 13, .int .i64 on, .int .i64 a, .int .i64 b, .int .i64 c, .int .i64 d, .int .u64 n] 114
  have e2 : w1.cell? ⟨w.heap.size, 2, none⟩ = some (.int .i64 a) := c1 2
  have e3 : w1.cell? ⟨w.heap.size, 3, none⟩ = some (.int .i64 b) := c1 3
  have e4 : w1.cell? ⟨w.heap.size, 4, none⟩ = some (.int .i64 c) := c1 4
  have hra : w1.cell? ⟨g, 3 + a, none⟩ = some (.int .u64 (reg s.rs a : Int)) := h1.reg ha
  have hrb : w1.cell? ⟨g, 3 + b, none⟩ = some (.int .u64 (reg s.rs b : Int)) := h1.reg hb
  have hrc : w1.cell? ⟨g, 3 + c, none⟩ = some (.int .u64 (reg s.rs c : Int)) := h1.reg hc
  have fa := h1.frozen (3 + a)
  have HW := Lib.hid hw1
  have H1 := Lib.hid h1
  have K1 := Lib.hid k1
  have HS := Lib.hid hs
  clear hw1 h1 k1 c1 h hs
  go_enter Try.func49, Try.ntmps49
  go_wp2
  rw [← HW.out]
  clear HW h2 f2
  go_region
  go_wp2
  go_end0
  have hs := HS.out
  rw [u64_or_nat _ _ (reg_lt hs b) (reg_lt hs c)]
  exact ⟨rfl, (H1.out.put ha (or_lt64 (reg_lt hs b) (reg_lt hs c))).drew, (K1.out.setCell (.inl rfl) _).drew⟩
set_option maxRecDepth 100000 in
set_option maxHeartbeats 400000 in
theorem own14 (g on a b c d n : Nat) (P : Option Addr) (w : World) (s : Ts) (h : Thr w g s) (ha : a < 24) (hb : b < 24) (hat : s.at_ < 1000000) :
    Calls Try.prog 49 #[.pointer (some ⟨g, 0, none⟩), .pointer P, .agg #[.int .i64 14, .int .i64 on, .int .i64 a, .int .i64 b, .int .i64 c, .int .i64 d, .int .u64 n]] w fun e w' =>
      e = .returned (.tuple #[]) ∧ Thr w' g { s with at_ := s.at_ + 1, rs := s.rs.set a (reg s.rs b * 2 ^ n % W64) } ∧ Keeps (· = g) w w' := by
  have h2 := h.at_
  have f2 := h.frozen 2
  have hs := h.small
  have hlt := h.blk.lt
  obtain ⟨w1, hw1, h1, k1, c1⟩ := enter_own h #[.int .i64 14, .int .i64 on, .int .i64 a, .int .i64 b, .int .i64 c, .int .i64 d, .int .u64 n] 114
  have e2 : w1.cell? ⟨w.heap.size, 2, none⟩ = some (.int .i64 a) := c1 2
  have e3 : w1.cell? ⟨w.heap.size, 3, none⟩ = some (.int .i64 b) := c1 3
  have e6 : w1.cell? ⟨w.heap.size, 6, none⟩ = some (.int .u64 n) := c1 6
  have hra : w1.cell? ⟨g, 3 + a, none⟩ = some (.int .u64 (reg s.rs a : Int)) := h1.reg ha
  have hrb : w1.cell? ⟨g, 3 + b, none⟩ = some (.int .u64 (reg s.rs b : Int)) := h1.reg hb
  have fa := h1.frozen (3 + a)
  have HW := Lib.hid hw1
  have H1 := Lib.hid h1
  have K1 := Lib.hid k1
  have HS := Lib.hid hs
  clear hw1 h1 k1 c1 h hs
  go_enter Try.func49, Try.ntmps49
  go_wp2
  rw [← HW.out]
  clear HW h2 f2
  go_region
  go_wp2
  go_end0
  have hs := HS.out
  rw [wrap_left]
  exact ⟨rfl, (H1.out.put ha (mod_lt64 _)).drew, (K1.out.setCell (.inl rfl) _).drew⟩
set_option maxRecDepth 100000 in
set_option maxHeartbeats 400000 in
theorem own15 (g on a b c d n : Nat) (P : Option Addr) (w : World) (s : Ts) (h : Thr w g s) (ha : a < 24) (hb : b < 24) (hat : s.at_ < 1000000) :
    Calls Try.prog 49 #[.pointer (some ⟨g, 0, none⟩), .pointer P, .agg #[.int .i64 15, .int .i64 on, .int .i64 a, .int .i64 b, .int .i64 c, .int .i64 d, .int .u64 n]] w fun e w' =>
      e = .returned (.tuple #[]) ∧ Thr w' g { s with at_ := s.at_ + 1, rs := s.rs.set a (reg s.rs b / 2 ^ n) } ∧ Keeps (· = g) w w' := by
  have h2 := h.at_
  have f2 := h.frozen 2
  have hs := h.small
  have hlt := h.blk.lt
  obtain ⟨w1, hw1, h1, k1, c1⟩ := enter_own h #[.int .i64 15, .int .i64 on, .int .i64 a, .int .i64 b, .int .i64 c, .int .i64 d, .int .u64 n] 114
  have e2 : w1.cell? ⟨w.heap.size, 2, none⟩ = some (.int .i64 a) := c1 2
  have e3 : w1.cell? ⟨w.heap.size, 3, none⟩ = some (.int .i64 b) := c1 3
  have e6 : w1.cell? ⟨w.heap.size, 6, none⟩ = some (.int .u64 n) := c1 6
  have hra : w1.cell? ⟨g, 3 + a, none⟩ = some (.int .u64 (reg s.rs a : Int)) := h1.reg ha
  have hrb : w1.cell? ⟨g, 3 + b, none⟩ = some (.int .u64 (reg s.rs b : Int)) := h1.reg hb
  have fa := h1.frozen (3 + a)
  have HW := Lib.hid hw1
  have H1 := Lib.hid h1
  have K1 := Lib.hid k1
  have HS := Lib.hid hs
  clear hw1 h1 k1 c1 h hs
  go_enter Try.func49, Try.ntmps49
  go_wp2
  rw [← HW.out]
  clear HW h2 f2
  go_region
  go_wp2
  go_end0
  have hs := HS.out
  rw [int_right _ _ (reg_lt hs b)]
  exact ⟨rfl, (H1.out.put ha (div_lt64 _ _ (reg_lt hs b))).drew, (K1.out.setCell (.inl rfl) _).drew⟩
set_option maxRecDepth 100000 in
set_option maxHeartbeats 400000 in
theorem own16 (g on a b c d n : Nat) (P : Option Addr) (w : World) (s : Ts) (h : Thr w g s) (ha : a < 24) (hb : b < 24) (hc : c < 24) (hat : s.at_ < 1000000) :
    Calls Try.prog 49 #[.pointer (some ⟨g, 0, none⟩), .pointer P, .agg #[.int .i64 16, .int .i64 on, .int .i64 a, .int .i64 b, .int .i64 c, .int .i64 d, .int .u64 n]] w fun e w' =>
      e = .returned (.tuple #[]) ∧ Thr w' g { s with at_ := s.at_ + 1, rs := s.rs.set a (max (reg s.rs b) (reg s.rs c)) } ∧ Keeps (· = g) w w' := by
  have h2 := h.at_
  have f2 := h.frozen 2
  have hs := h.small
  have hlt := h.blk.lt
  obtain ⟨w1, hw1, h1, k1, c1⟩ := enter_own h #[.int .i64 16, .int .i64 on, .int .i64 a, .int .i64 b, .int .i64 c, .int .i64 d, .int .u64 n] 114
  have e2 : w1.cell? ⟨w.heap.size, 2, none⟩ = some (.int .i64 a) := c1 2
  have e3 : w1.cell? ⟨w.heap.size, 3, none⟩ = some (.int .i64 b) := c1 3
  have e4 : w1.cell? ⟨w.heap.size, 4, none⟩ = some (.int .i64 c) := c1 4
  have hra : w1.cell? ⟨g, 3 + a, none⟩ = some (.int .u64 (reg s.rs a : Int)) := h1.reg ha
  have hrb : w1.cell? ⟨g, 3 + b, none⟩ = some (.int .u64 (reg s.rs b : Int)) := h1.reg hb
  have hrc : w1.cell? ⟨g, 3 + c, none⟩ = some (.int .u64 (reg s.rs c : Int)) := h1.reg hc
  have fa := h1.frozen (3 + a)
  have HW := Lib.hid hw1
  have H1 := Lib.hid h1
  have K1 := Lib.hid k1
  have HS := Lib.hid hs
  clear hw1 h1 k1 c1 h hs
  go_enter Try.func49, Try.ntmps49
  go_wp2
  rw [← HW.out]
  clear HW h2 f2
  go_region
  go_wp2
  all_goals go_end0
  all_goals have hs := HS.out
  all_goals first | (rw [Nat.max_eq_right (by omega)]; exact ⟨rfl, (H1.out.put ha (reg_lt hs c)).drew, (K1.out.setCell (.inl rfl) _).drew⟩) | (rw [Nat.max_eq_left (by omega)]; exact ⟨rfl, (H1.out.put ha (reg_lt hs b)).drew, (K1.out.setCell (.inl rfl) _).drew⟩)
set_option maxRecDepth 100000 in
set_option maxHeartbeats 400000 in
theorem own11z (g on a b c d n : Nat) (P : Option Addr) (w : World) (s : Ts) (h : Thr w g s) (ha : a < 24) (hb : b < 24) (hc : c < 24) (hat : s.at_ < 1000000) (hz : reg s.rs c = 0) :
    Calls Try.prog 49 #[.pointer (some ⟨g, 0, none⟩), .pointer P, .agg #[.int .i64 11, .int .i64 on, .int .i64 a, .int .i64 b, .int .i64 c, .int .i64 d, .int .u64 n]] w fun e w' =>
      e = .returned (.tuple #[]) ∧ Thr w' g { s with at_ := s.at_ + 1, rs := s.rs.set a (0) } ∧ Keeps (· = g) w w' := by
  have h2 := h.at_
  have f2 := h.frozen 2
  have hs := h.small
  have hlt := h.blk.lt
  obtain ⟨w1, hw1, h1, k1, c1⟩ := enter_own h #[.int .i64 11, .int .i64 on, .int .i64 a, .int .i64 b, .int .i64 c, .int .i64 d, .int .u64 n] 114
  have e2 : w1.cell? ⟨w.heap.size, 2, none⟩ = some (.int .i64 a) := c1 2
  have e3 : w1.cell? ⟨w.heap.size, 3, none⟩ = some (.int .i64 b) := c1 3
  have e4 : w1.cell? ⟨w.heap.size, 4, none⟩ = some (.int .i64 c) := c1 4
  have hra : w1.cell? ⟨g, 3 + a, none⟩ = some (.int .u64 (reg s.rs a : Int)) := h1.reg ha
  have hrb : w1.cell? ⟨g, 3 + b, none⟩ = some (.int .u64 (reg s.rs b : Int)) := h1.reg hb
  have hrc : w1.cell? ⟨g, 3 + c, none⟩ = some (.int .u64 (reg s.rs c : Int)) := h1.reg hc
  have fa := h1.frozen (3 + a)
  rw [hz] at hrc
  have c00 : ((0 : Nat) : Int) = 0 := rfl
  rw [c00] at hrc
  clear hz c00
  have HW := Lib.hid hw1
  have H1 := Lib.hid h1
  have K1 := Lib.hid k1
  have HS := Lib.hid hs
  clear hw1 h1 k1 c1 h hs
  go_enter Try.func49, Try.ntmps49
  go_wp2
  rw [← HW.out]
  clear HW h2 f2
  go_region
  go_wp2
  go_region
  go_wp2
  go_end0
  exact ⟨rfl, (show Thr (w1.setCell ⟨g, 3 + a, none⟩ (.int .u64 ((0 : Nat) : Int))).drew.drew g _ from (H1.out.put ha (by decide)).drew.drew), (K1.out.setCell (.inl rfl) _).drew.drew⟩
set_option maxRecDepth 100000 in
set_option maxHeartbeats 400000 in
theorem own11n (g on a b c d n : Nat) (P : Option Addr) (w : World) (s : Ts) (h : Thr w g s) (ha : a < 24) (hb : b < 24) (hc : c < 24) (hat : s.at_ < 1000000) (hz : ¬ reg s.rs c = 0) :
    Calls Try.prog 49 #[.pointer (some ⟨g, 0, none⟩), .pointer P, .agg #[.int .i64 11, .int .i64 on, .int .i64 a, .int .i64 b, .int .i64 c, .int .i64 d, .int .u64 n]] w fun e w' =>
      e = .returned (.tuple #[]) ∧ Thr w' g { s with at_ := s.at_ + 1, rs := s.rs.set a (reg s.rs b / reg s.rs c) } ∧ Keeps (· = g) w w' := by
  have h2 := h.at_
  have f2 := h.frozen 2
  have hs := h.small
  have hlt := h.blk.lt
  obtain ⟨w1, hw1, h1, k1, c1⟩ := enter_own h #[.int .i64 11, .int .i64 on, .int .i64 a, .int .i64 b, .int .i64 c, .int .i64 d, .int .u64 n] 114
  have e2 : w1.cell? ⟨w.heap.size, 2, none⟩ = some (.int .i64 a) := c1 2
  have e3 : w1.cell? ⟨w.heap.size, 3, none⟩ = some (.int .i64 b) := c1 3
  have e4 : w1.cell? ⟨w.heap.size, 4, none⟩ = some (.int .i64 c) := c1 4
  have hra : w1.cell? ⟨g, 3 + a, none⟩ = some (.int .u64 (reg s.rs a : Int)) := h1.reg ha
  have hrb : w1.cell? ⟨g, 3 + b, none⟩ = some (.int .u64 (reg s.rs b : Int)) := h1.reg hb
  have hrc : w1.cell? ⟨g, 3 + c, none⟩ = some (.int .u64 (reg s.rs c : Int)) := h1.reg hc
  have fa := h1.frozen (3 + a)
  obtain ⟨vb, hvb⟩ : ∃ x, x = reg s.rs b := ⟨_, rfl⟩
  obtain ⟨vc, hvc⟩ : ∃ x, x = reg s.rs c := ⟨_, rfl⟩
  have hbl := reg_lt hs b
  rw [← hvb] at hbl hrb ⊢
  rw [← hvc] at hz hrc ⊢
  have hz1 : ¬ (vc : Int) = 0 := by omega
  have hz2 : ((vc : Int) == 0) = false := by simp; omega
  have hdl : vb / vc < 18446744073709551616 := Nat.lt_of_le_of_lt (Nat.div_le_self _ _) hbl
  have e9 : IntKind.u64.wrap ((vb : Int) / (vc : Int)) = ((vb / vc : Nat) : Int) := by rw [← Int.natCast_ediv, IntKind.wrap_u64]; generalize vb / vc = q at *; omega
  have e8 : IntKind.u64.wrap ((vb : Int).tdiv (vc : Int)) = ((vb / vc : Nat) : Int) := by rw [Int.tdiv_eq_ediv_of_nonneg (Int.natCast_nonneg _)]; exact e9
  have E8 := Lib.hid (And.intro e8 (And.intro e9 hdl))
  clear e8 e9 hdl hbl hvb hvc hz
  have HW := Lib.hid hw1
  have H1 := Lib.hid h1
  have K1 := Lib.hid k1
  have HS := Lib.hid hs
  clear hw1 h1 k1 c1 h hs
  go_enter Try.func49, Try.ntmps49
  go_wp2
  rw [← HW.out]
  clear HW h2 f2
  go_region
  go_wp2
  go_region
  go_wp2
  go_end0
  first | rw [E8.out.1] | rw [E8.out.2.1]
  exact ⟨rfl, (H1.out.put ha E8.out.2.2).drew.drew, (K1.out.setCell (.inl rfl) _).drew.drew⟩
end Go.Proofs.Ytgenblefbddilaa.mz
