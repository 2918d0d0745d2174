/-
  The law OctetsPuts, walked.
-/
import Derived.Test.YtbnkmfmbbbcogaaOcSpec
import Derived.Test.YtbnkmfmbbbcogaaOcOpen
import Derived.Test.YtbnkmfmbbbcogaaOcSame
import Derived.Test.YtbnkmfmbbbcogaaOcWorks
import Derived.Deep.RegionHeld3
namespace Go.Proofs.Ytbnkmfmbbbcogaa.oc
open Go.RowKit
def f5 {α : Type} (a b c d e : α) : Nat → α
  | 0 => a
  | 1 => b
  | 2 => c
  | 3 => d
  | _ => e
theorem own_blk {w : World} {g base N : Nat} {xs : List Value} (h : Blk w g 5 xs) (hb : base ≤ g) (hl : xs.length = N) (hm : N ≤ 140737488355328) : w.ownsRow base 5 1 (.slice (some ⟨g, 0, none⟩) N N) N xs :=
  ⟨by omega, .inr ⟨g, N, xs.toArray, rfl, hb, h, Nat.le_refl _, by simp only [maxLen]; omega, by simp; omega, by rw [List.take_of_length_le (by simp; omega)]⟩⟩
theorem rd_own {w : World} {base n : Nat} {e : TypeId} {v : Value} {xs : List Value} (h : w.ownsRow base e 1 v n xs) : ∃ A c, v = .slice A n c ∧ Rd w w.heap.size A xs := by
  rcases h.2 with ⟨rfl, h0⟩ | ⟨g, cap, cur, rfl, _⟩
  · subst h0
    obtain rfl : xs = [] := List.eq_nil_of_length_eq_zero (by simpa using h.1)
    exact ⟨none, 0, rfl, Rd.nil_⟩
  · exact ⟨_, cap, rfl, Rd.own h⟩
/-- two slices of bytes in a new block -/
theorem pt_two {w : World} {A A' : Option Addr} {xs ys : List Nat} {n n' c c' B : Nat} {t : TypeId} (hn : xs.length = n) (hn' : ys.length = n') (hr : Rd w B A (by_ xs)) (hr' : Rd w B A' (by_ ys)) (hB : B ≤ w.heap.size) :
    Pt (w.alloc (.cells #[.slice A n c, .slice A' n' c'] t)) (w.heap.size + 1) (some ⟨w.heap.size, 0, none⟩) [xs, ys] := by
  subst hn
  subst hn'
  have r := (hr.alloc hB (.cells #[.slice A xs.length c, .slice A' ys.length c'] t)).more (B' := w.heap.size + 1) (by omega)
  have r' := (hr'.alloc hB (.cells #[.slice A xs.length c, .slice A' ys.length c'] t)).more (B' := w.heap.size + 1) (by omega)
  have hb := Blk.new w t #[.slice A xs.length c, .slice A' ys.length c']
  intro k l hk
  rcases k with _ | _ | k
  · simp only [List.getElem?_cons_zero, Option.some.injEq] at hk
    subst hk
    exact ⟨w.heap.size, 0, A, c, rfl, by omega, by rw [Nat.zero_add, hb.cell]; rfl, r⟩
  · simp only [List.getElem?_cons_succ, List.getElem?_cons_zero, Option.some.injEq] at hk
    subst hk
    exact ⟨w.heap.size, 0, A', c', rfl, by omega, by rw [hb.cell]; rfl, r'⟩
  · simp at hk
theorem drop_take_bytes (bs : List Nat) {n : Nat} (hn : bs.length = n) : (bs ++ marks 20).take n = bs := by
  rw [List.take_append_of_le_length (by omega), List.take_of_length_le (by omega)]

theorem bytes_two (v m : Nat) (mi : Int) (w : World) (hv : v < 18446744073709551616) (hm : m ≤ 8) (hi : (m : Int) = mi) :
    Calls Try.prog 20 #[.int .u64 v, .int .i64 mi] w fun e w' => ∃ AB cB, e = .returned (.slice AB m cB) ∧ Rd w' w'.heap.size AB (by_ (be m v)) ∧ Below w.heap.size w w' := by
  subst hi
  refine (bytes_any v m w hv hm).mono ?_
  rintro e w' ⟨x, rfl, ho, b⟩
  obtain ⟨AB, cB, rfl, r⟩ := rd_own ho
  exact ⟨AB, cB, rfl, r, b⟩
theorem join_two (A AB : Option Addr) (n c m cB B : Nat) (bs ys : List Nat) (w : World) (hn : bs.length = n) (hm : ys.length = m) (hl : n + m ≤ 140737488355328) (hr : Rd w B A (by_ bs)) (hB : B ≤ w.heap.size) (hr' : Rd w w.heap.size AB (by_ ys)) :
    Calls Try.prog 19 #[.slice (some ⟨w.heap.size, 0, none⟩) 2 2] (w.alloc (.cells #[.slice A n c, .slice AB m cB] 22)) fun e w' => ∃ AJ cJ, e = .returned (.slice AJ (n + m) cJ) ∧ Rd w' w'.heap.size AJ (by_ (bs ++ ys)) ∧ Below w.heap.size w w' := by
  have hf : [bs, ys].flatten = bs ++ ys := by simp
  have hfl : [bs, ys].flatten.length = n + m := by rw [hf, List.length_append, hn, hm]
  refine (join_any (some ⟨w.heap.size, 0, none⟩) [bs, ys] 2 2 (w.heap.size + 1) (w.alloc (.cells #[.slice A n c, .slice AB m cB] 22)) rfl (by omega) (by omega) (pt_two hn hm (hr.more hB) hr' (Nat.le_refl _)) (by simp)).mono ?_
  rintro e w' ⟨x, rfl, ho, b⟩
  rw [hfl, hf] at ho
  obtain ⟨AJ, cJ, rfl, r⟩ := rd_own ho
  exact ⟨AJ, cJ, rfl, r, ((Below.refl w.heap.size w).alloc (Nat.le_refl _) _).trans (b.mono (by simp))⟩
theorem same_two (A A' : Option Addr) (bs : List Nat) (n c c' B B' : Nat) (w : World) (hn : bs.length = n) (hm : n ≤ 140737488355328) (hr : Rd w B A (by_ bs)) (hr' : Rd w B' A' (by_ bs)) :
    Calls Try.prog 18 #[.slice A n c, .slice A' n c'] w fun e w' => e = .returned (.bool true) ∧ Below w.heap.size w w' := by
  refine (same_yes A A' bs n c c' B B' w hn hm hr hr').mono ?_
  rintro e w' ⟨rfl, d, rfl⟩
  have h := Below.refl w.heap.size w
  exact ⟨rfl, ⟨h.os, h.tape, h.output, h.size, h.block⟩⟩

set_option maxRecDepth 100000 in
set_option maxHeartbeats 1000000 in
theorem walk_octetsPuts (w : World) (A : Option Addr) (n c : Nat) (bs : List Nat) (h : IsNums .u8 256 w A n c bs) (hc : c ≤ 140737488351232) (v : Nat) (hv : v < 18446744073709551616) :
    Calls Try.prog 3 #[.slice A n c, .int .u64 v] w fun e w' => e = .returned (.bool true) ∧ Below w.heap.size w w' := by
  obtain ⟨hn, hnc, hs, hr⟩ := h.bytes
  have n1 : n ≤ 140737488351232 := by omega
  have HN := Lib.hid hn
  obtain ⟨a1, ha1⟩ : ∃ a : Nat, v % 256 = a := ⟨_, rfl⟩
  obtain ⟨a2, ha2⟩ : ∃ a : Nat, v % 65536 = a := ⟨_, rfl⟩
  obtain ⟨a4, ha4⟩ : ∃ a : Nat, v % 4294967296 = a := ⟨_, rfl⟩
  have e1 : (v : Int) % 256 = (a1 : Int) := by omega
  have e2 : (v : Int) % 65536 = (a2 : Int) := by omega
  have e4 : (v : Int) % 4294967296 = (a4 : Int) := by omega
  have q1 : IntKind.u8.wrap (v : Int) = (a1 : Int) := by rw [IntKind.wrap_u8']; exact e1
  have q2 : IntKind.u16.wrap (v : Int) = (a2 : Int) := by rw [IntKind.wrap_u16]; exact e2
  have q4 : IntKind.u32.wrap (v : Int) = (a4 : Int) := by rw [IntKind.wrap_u32]; exact e4
  have y1 : a1 < 256 := by omega
  have y2 : a2 < 65536 := by omega
  have y4 : a4 < 4294967296 := by omega
  clear ha1 ha2 ha4 h hn
  go_enter Try.func3, Try.ntmps3
  go_wp2_with fail
  refine (spare_any A bs n c w.heap.size w HN.out n1 hr).mono ?_
  rintro e w1 ⟨g0, cap0, rfl, c1, c2, ho0, b1⟩
  have r0 : Rd w1 w1.heap.size (some ⟨g0, 0, none⟩) (by_ (bs ++ marks 20)) := Rd.own ho0
  have r1 : Rd w1 w1.heap.size (some ⟨g0, 0, none⟩) (by_ bs) := by
    have := r0.take n
    have e : (by_ (bs ++ marks 20)).take n = by_ bs := by rw [by_append, List.take_append_of_le_length (by rw [by_length, HN.out]; exact Nat.le_refl _), List.take_of_length_le (by rw [by_length, HN.out]; exact Nat.le_refl _)]
    rwa [e] at this
  clear ho0
  have hp0 := fun (W : World) (hb : Below w1.heap.size w1 W) => put8_any (some ⟨g0, 0, none⟩) bs n cap0 w1.heap.size a1 W HN.out (by omega) y1 (r1.below hb) hb.size
  have HP0 := Lib.hid hp0
  clear hp0
  have hp1 := fun (W : World) (hb : Below w1.heap.size w1 W) => put16_any (some ⟨g0, 0, none⟩) bs n cap0 w1.heap.size a2 W HN.out (by omega) y2 (r1.below hb) hb.size
  have HP1 := Lib.hid hp1
  clear hp1
  have hp2 := fun (W : World) (hb : Below w1.heap.size w1 W) => put32_any (some ⟨g0, 0, none⟩) bs n cap0 w1.heap.size a4 W HN.out (by omega) y4 (r1.below hb) hb.size
  have HP2 := Lib.hid hp2
  clear hp2
  have hp3 := fun (W : World) (hb : Below w1.heap.size w1 W) => put64_any (some ⟨g0, 0, none⟩) bs n cap0 w1.heap.size v W HN.out (by omega) hv (r1.below hb) hb.size
  have HP3 := Lib.hid hp3
  clear hp3
  have hp4 := fun (W : World) (hb : Below w1.heap.size w1 W) => putOwn_any (some ⟨g0, 0, none⟩) bs n cap0 w1.heap.size a2 W HN.out (by omega) y2 (r1.below hb) hb.size
  have HP4 := Lib.hid hp4
  clear hp4
  have d1 := Below.refl w1.heap.size w1
  go_wp2_with fail
  refine (HP0.out w1 d1).mono ?_
  rintro e w2 ⟨rfl, k0, x0⟩
  have d2 : Below w1.heap.size w1 w2 := d1.trans (x0.mono d1.size)
  go_wp2_with fail
  refine (HP1.out w2 d2).mono ?_
  rintro e w3 ⟨rfl, k1, x1⟩
  have d3 : Below w1.heap.size w1 w3 := d2.trans (x1.mono d2.size)
  go_wp2_with fail
  refine (HP2.out w3 d3).mono ?_
  rintro e w4 ⟨rfl, k2, x2⟩
  have d4 : Below w1.heap.size w1 w4 := d3.trans (x2.mono d3.size)
  go_wp2_with fail
  refine (HP3.out w4 d4).mono ?_
  rintro e w5 ⟨rfl, k3, x3⟩
  have d5 : Below w1.heap.size w1 w5 := d4.trans (x3.mono d4.size)
  go_wp2_with fail
  refine (HP4.out w5 d5).mono ?_
  rintro e w6 ⟨rfl, k4, x4⟩
  have d6 : Below w1.heap.size w1 w6 := d5.trans (x4.mono d5.size)
  clear HP0 HP1 HP2 HP3 HP4 q1 q2 q4
  have z6 : w6.heap.size + 1 = (w6.alloc (.cells #[.slice (some ⟨w1.heap.size, 0, none⟩) (n + 1) (n + 1), .slice (some ⟨w2.heap.size, 0, none⟩) (n + 2) (n + 2), .slice (some ⟨w3.heap.size, 0, none⟩) (n + 4) (n + 4), .slice (some ⟨w4.heap.size, 0, none⟩) (n + 8) (n + 8), .slice (some ⟨w5.heap.size, 0, none⟩) (n + 2) (n + 2)] 22)).heap.size := by simp
  have W7b : Below w6.heap.size w6 ((w6.alloc (.cells #[.slice (some ⟨w1.heap.size, 0, none⟩) (n + 1) (n + 1), .slice (some ⟨w2.heap.size, 0, none⟩) (n + 2) (n + 2), .slice (some ⟨w3.heap.size, 0, none⟩) (n + 4) (n + 4), .slice (some ⟨w4.heap.size, 0, none⟩) (n + 8) (n + 8), .slice (some ⟨w5.heap.size, 0, none⟩) (n + 2) (n + 2)] 22)).alloc (.cells #[.int .i64 1, .int .i64 2, .int .i64 4, .int .i64 8, .int .i64 2] 3)) := ((Below.refl _ _).alloc (Nat.le_refl _) _).alloc (by simp) _
  have m0 : Blk w6 w1.heap.size 5 (by_ (bs ++ be 1 a1)) := ((((k0.below x1 (by have := k0.lt; have := x0.size; omega)).below x2 (by have := k0.lt; have := k1.lt; have := x0.size; have := x1.size; omega)).below x3 (by have := k0.lt; have := k1.lt; have := k2.lt; have := x0.size; have := x1.size; have := x2.size; omega)).below x4 (by have := k0.lt; have := k1.lt; have := k2.lt; have := k3.lt; have := x0.size; have := x1.size; have := x2.size; have := x3.size; omega))
  have m1 : Blk w6 w2.heap.size 5 (by_ (bs ++ be 2 a2)) := (((k1.below x2 (by have := k1.lt; have := x1.size; omega)).below x3 (by have := k1.lt; have := k2.lt; have := x1.size; have := x2.size; omega)).below x4 (by have := k1.lt; have := k2.lt; have := k3.lt; have := x1.size; have := x2.size; have := x3.size; omega))
  have m2 : Blk w6 w3.heap.size 5 (by_ (bs ++ be 4 a4)) := ((k2.below x3 (by have := k2.lt; have := x2.size; omega)).below x4 (by have := k2.lt; have := k3.lt; have := x2.size; have := x3.size; omega))
  have m3 : Blk w6 w4.heap.size 5 (by_ (bs ++ be 8 v)) := (k3.below x4 (by have := k3.lt; have := x3.size; omega))
  have m4 : Blk w6 w5.heap.size 5 (by_ (bs ++ be 2 a2)) := k4
  have M0 := own_blk (base := w1.heap.size) ((m0.below W7b m0.lt)) (by omega) (by rw [by_length, List.length_append, HN.out, be_length]) (by omega)
  have M1 := own_blk (base := w1.heap.size) ((m1.below W7b m1.lt)) (by have := k0.lt; omega) (by rw [by_length, List.length_append, HN.out, be_length]) (by omega)
  have M2 := own_blk (base := w1.heap.size) ((m2.below W7b m2.lt)) (by have := k0.lt; have := k1.lt; omega) (by rw [by_length, List.length_append, HN.out, be_length]) (by omega)
  have M3 := own_blk (base := w1.heap.size) ((m3.below W7b m3.lt)) (by have := k0.lt; have := k1.lt; have := k2.lt; omega) (by rw [by_length, List.length_append, HN.out, be_length]) (by omega)
  have M4 := own_blk (base := w1.heap.size) ((m4.below W7b m4.lt)) (by have := k0.lt; have := k1.lt; have := k2.lt; have := k3.lt; omega) (by rw [by_length, List.length_append, HN.out, be_length]) (by omega)
  have five : Five ((w6.alloc (.cells #[.slice (some ⟨w1.heap.size, 0, none⟩) (n + 1) (n + 1), .slice (some ⟨w2.heap.size, 0, none⟩) (n + 2) (n + 2), .slice (some ⟨w3.heap.size, 0, none⟩) (n + 4) (n + 4), .slice (some ⟨w4.heap.size, 0, none⟩) (n + 8) (n + 8), .slice (some ⟨w5.heap.size, 0, none⟩) (n + 2) (n + 2)] 22)).alloc (.cells #[.int .i64 1, .int .i64 2, .int .i64 4, .int .i64 8, .int .i64 2] 3)) w6.heap.size w1.heap.size (f5 (.slice (some ⟨w1.heap.size, 0, none⟩) (n + 1) (n + 1)) (.slice (some ⟨w2.heap.size, 0, none⟩) (n + 2) (n + 2)) (.slice (some ⟨w3.heap.size, 0, none⟩) (n + 4) (n + 4)) (.slice (some ⟨w4.heap.size, 0, none⟩) (n + 8) (n + 8)) (.slice (some ⟨w5.heap.size, 0, none⟩) (n + 2) (n + 2))) (f5 (n + 1) (n + 2) (n + 4) (n + 8) (n + 2)) (f5 (by_ (bs ++ be 1 a1)) (by_ (bs ++ be 2 a2)) (by_ (bs ++ be 4 a4)) (by_ (bs ++ be 8 v)) (by_ (bs ++ be 2 a2))) := by
    refine ⟨(Blk.new w6 22 #[.slice (some ⟨w1.heap.size, 0, none⟩) (n + 1) (n + 1), .slice (some ⟨w2.heap.size, 0, none⟩) (n + 2) (n + 2), .slice (some ⟨w3.heap.size, 0, none⟩) (n + 4) (n + 4), .slice (some ⟨w4.heap.size, 0, none⟩) (n + 8) (n + 8), .slice (some ⟨w5.heap.size, 0, none⟩) (n + 2) (n + 2)]).alloc _, fun j hj => ?_, fun j k hj hk hjk => ?_⟩
    · rcases (by omega : j = 0 ∨ j = 1 ∨ j = 2 ∨ j = 3 ∨ j = 4) with rfl | rfl | rfl | rfl | rfl
      · exact ⟨M0, by show 0 < n + 1; omega⟩
      · exact ⟨M1, by show 0 < n + 2; omega⟩
      · exact ⟨M2, by show 0 < n + 4; omega⟩
      · exact ⟨M3, by show 0 < n + 8; omega⟩
      · exact ⟨M4, by show 0 < n + 2; omega⟩
    · have l0 := k0.lt
      have l1 := k1.lt
      have l2 := k2.lt
      have l3 := k3.lt
      rcases (by omega : j = 0 ∨ j = 1 ∨ j = 2 ∨ j = 3 ∨ j = 4) with rfl | rfl | rfl | rfl | rfl <;> rcases (by omega : k = 0 ∨ k = 1 ∨ k = 2 ∨ k = 3 ∨ k = 4) with rfl | rfl | rfl | rfl | rfl <;> first | exact absurd rfl hjk | (simp [f5, Value.ownBlock]; omega)
  have wid : Blk ((w6.alloc (.cells #[.slice (some ⟨w1.heap.size, 0, none⟩) (n + 1) (n + 1), .slice (some ⟨w2.heap.size, 0, none⟩) (n + 2) (n + 2), .slice (some ⟨w3.heap.size, 0, none⟩) (n + 4) (n + 4), .slice (some ⟨w4.heap.size, 0, none⟩) (n + 8) (n + 8), .slice (some ⟨w5.heap.size, 0, none⟩) (n + 2) (n + 2)] 22)).alloc (.cells #[.int .i64 1, .int .i64 2, .int .i64 4, .int .i64 8, .int .i64 2] 3)) (w6.alloc (.cells #[.slice (some ⟨w1.heap.size, 0, none⟩) (n + 1) (n + 1), .slice (some ⟨w2.heap.size, 0, none⟩) (n + 2) (n + 2), .slice (some ⟨w3.heap.size, 0, none⟩) (n + 4) (n + 4), .slice (some ⟨w4.heap.size, 0, none⟩) (n + 8) (n + 8), .slice (some ⟨w5.heap.size, 0, none⟩) (n + 2) (n + 2)] 22)).heap.size 3 [.int .i64 1, .int .i64 2, .int .i64 4, .int .i64 8, .int .i64 2] := Blk.new _ _ _
  rw [show (w6.alloc (.cells #[.slice (some ⟨w1.heap.size, 0, none⟩) (n + 1) (n + 1), .slice (some ⟨w2.heap.size, 0, none⟩) (n + 2) (n + 2), .slice (some ⟨w3.heap.size, 0, none⟩) (n + 4) (n + 4), .slice (some ⟨w4.heap.size, 0, none⟩) (n + 8) (n + 8), .slice (some ⟨w5.heap.size, 0, none⟩) (n + 2) (n + 2)] 22)).heap.size = w6.heap.size + 1 from by simp] at wid
  have dW : Below w1.heap.size w1 ((w6.alloc (.cells #[.slice (some ⟨w1.heap.size, 0, none⟩) (n + 1) (n + 1), .slice (some ⟨w2.heap.size, 0, none⟩) (n + 2) (n + 2), .slice (some ⟨w3.heap.size, 0, none⟩) (n + 4) (n + 4), .slice (some ⟨w4.heap.size, 0, none⟩) (n + 8) (n + 8), .slice (some ⟨w5.heap.size, 0, none⟩) (n + 2) (n + 2)] 22)).alloc (.cells #[.int .i64 1, .int .i64 2, .int .i64 4, .int .i64 8, .int .i64 2] 3)) := d6.trans (W7b.mono d6.size)
  clear M0 M1 M2 M3 M4 m0 m1 m2 m3 m4 z6 W7b
  generalize (some ⟨w1.heap.size, 0, none⟩ : Option Addr) = p0 at five wid dW ⊢
  generalize (some ⟨w2.heap.size, 0, none⟩ : Option Addr) = p1 at five wid dW ⊢
  generalize (some ⟨w3.heap.size, 0, none⟩ : Option Addr) = p2 at five wid dW ⊢
  generalize (some ⟨w4.heap.size, 0, none⟩ : Option Addr) = p3 at five wid dW ⊢
  generalize (some ⟨w5.heap.size, 0, none⟩ : Option Addr) = p4 at five wid dW ⊢
  go_wp2_with fail
  generalize w6.alloc (.cells #[.slice p0 (n + 1) (n + 1), .slice p1 (n + 2) (n + 2), .slice p2 (n + 4) (n + 4), .slice p3 (n + 8) (n + 8), .slice p4 (n + 2) (n + 2)] 22) = W7 at five wid dW ⊢
  generalize W7.alloc (.cells #[.int .i64 1, .int .i64 2, .int .i64 4, .int .i64 8, .int .i64 2] 3) = W8 at five wid dW ⊢
  have dd1 : Below w.heap.size w W8 := b1.trans (dW.mono b1.size)
  have hr8 : Rd W8 w.heap.size A (by_ bs) := hr.below dd1
  have z8 : w.heap.size ≤ W8.heap.size := dd1.size
  have cwid : ∀ (k : Nat) (W : World), Below W8.heap.size W8 W → W.cell? ⟨w6.heap.size + 1, k, none⟩ = [Value.int .i64 1, .int .i64 2, .int .i64 4, .int .i64 8, .int .i64 2][k]? := fun k W hb => (hb.cell (p := ⟨w6.heap.size + 1, k, none⟩) wid.lt).trans (wid.cell k)
  have call : ∀ (k : Nat), k < 5 → ∀ W : World, Below W8.heap.size W8 W → W.cell? ⟨w6.heap.size, k, none⟩ = some (f5 (.slice p0 (n + 1) (n + 1)) (.slice p1 (n + 2) (n + 2)) (.slice p2 (n + 4) (n + 4)) (.slice p3 (n + 8) (n + 8)) (.slice p4 (n + 2) (n + 2)) k) := fun k hk W hb => (hb.cell (p := ⟨w6.heap.size, k, none⟩) five.1.lt).trans (five.cell hk)
  have R0 : Rd W8 W8.heap.size p0 (by_ (bs ++ be 1 a1)) := Rd.own (five.2.1 0 (by omega)).1
  have R1 : Rd W8 W8.heap.size p1 (by_ (bs ++ be 2 a2)) := Rd.own (five.2.1 1 (by omega)).1
  have R2 : Rd W8 W8.heap.size p2 (by_ (bs ++ be 4 a4)) := Rd.own (five.2.1 2 (by omega)).1
  have R3 : Rd W8 W8.heap.size p3 (by_ (bs ++ be 8 v)) := Rd.own (five.2.1 3 (by omega)).1
  have R4 : Rd W8 W8.heap.size p4 (by_ (bs ++ be 2 a2)) := Rd.own (five.2.1 4 (by omega)).1
  have CW := Lib.hid cwid
  have CA := Lib.hid call
  have FV := Lib.hid five
  have WD := Lib.hid wid
  clear cwid call five wid
  go_loopw [13] (fun i wr => ∃ k : Nat, k ≤ 5 ∧ i = .int .i64 k ∧ Below W8.heap.size W8 wr) (fun i _ => 5 - (intOf i).toNat)
  case atStart => exact ⟨0, by omega, rfl, Below.refl _ _⟩
  case round =>
    obtain ⟨k, hk, rfl, hb⟩ := hrel
    by_cases hlt : k < 5
    · rcases (by omega : k = 0 ∨ k = 1 ∨ k = 2 ∨ k = 3 ∨ k = 4) with rfl | rfl | rfl | rfl | rfl
      · have cw : wr.cell? ⟨w6.heap.size + 1, 0, none⟩ = some (.int .i64 1) := CW.out 0 wr hb
        have ca : ∀ W : World, Below W8.heap.size W8 W → W.cell? ⟨w6.heap.size, 0, none⟩ = some (.slice p0 (n + 1) (n + 1)) := CA.out 0 (by omega)
        have HCA := Lib.hid ca
        clear ca
        go_wp2_with fail
        rw [e1]
        have hbd := hb.drew
        have hby := bytes_two a1 1 1 wr.drew (by omega) (by omega) rfl
        have HBY := Lib.hid hby
        have hjo := fun (AB : Option Addr) (cB : Nat) (w9 : World) (r9 : Rd w9 w9.heap.size AB (by_ (be 1 a1))) (g9 : Below W8.heap.size W8 w9) => join_two A AB n c 1 cB w.heap.size bs (be 1 a1) w9 HN.out (be_length _ _) (by omega) (hr8.below (g9.mono z8)) (Nat.le_trans z8 g9.size) r9
        have HJO := Lib.hid hjo
        have hsa := fun (AJ : Option Addr) (cJ : Nat) (w10 : World) (r10 : Rd w10 w10.heap.size AJ (by_ (bs ++ be 1 a1))) (g10 : Below W8.heap.size W8 w10) => same_two p0 AJ (bs ++ be 1 a1) (n + 1) (n + 1) cJ W8.heap.size w10.heap.size w10 (by rw [List.length_append, HN.out, be_length]) (by omega) (R0.below g10) r10
        have HSA := Lib.hid hsa
        clear hby hjo hsa
        go_region_held3 (fun w' => w'.cell? ⟨w6.heap.size, 0, none⟩ = some (.slice p0 (n + 1) (n + 1))) (exact HCA.out _ (by first | assumption | (apply Below.drew; assumption)))
          (first
            | (go_at_call 20; refine HBY.out.mono ?_; rintro e w9 ⟨AB, cB, rfl, r9, b9⟩; have g9 := hbd.trans (b9.mono hbd.size); have g9a := g9.alloc g9.size (.cells #[.slice A n c, .slice AB 1 cB] 22))
            | (go_at_call 19; refine (HJO.out AB cB w9 r9 g9).mono ?_; rintro e w10 ⟨AJ, cJ, rfl, r10, b10⟩; have g10 := g9.trans (b10.mono g9.size))
            | (go_at_call 18; refine (HSA.out AJ cJ w10 r10 g10).mono ?_; rintro e w11 ⟨rfl, b11⟩; have g11 := g10.trans (b11.mono g10.size)))
        go_wp2_with fail
        go_roundw
        case rel => exact ⟨0+1, by omega, by go_num, g11⟩
        case measure => simp [intOf]
      · have cw : wr.cell? ⟨w6.heap.size + 1, 1, none⟩ = some (.int .i64 2) := CW.out 1 wr hb
        have ca : ∀ W : World, Below W8.heap.size W8 W → W.cell? ⟨w6.heap.size, 1, none⟩ = some (.slice p1 (n + 2) (n + 2)) := CA.out 1 (by omega)
        have HCA := Lib.hid ca
        clear ca
        go_wp2_with fail
        rw [e2]
        have hbd := hb.drew
        have hby := bytes_two a2 2 2 wr.drew (by omega) (by omega) rfl
        have HBY := Lib.hid hby
        have hjo := fun (AB : Option Addr) (cB : Nat) (w9 : World) (r9 : Rd w9 w9.heap.size AB (by_ (be 2 a2))) (g9 : Below W8.heap.size W8 w9) => join_two A AB n c 2 cB w.heap.size bs (be 2 a2) w9 HN.out (be_length _ _) (by omega) (hr8.below (g9.mono z8)) (Nat.le_trans z8 g9.size) r9
        have HJO := Lib.hid hjo
        have hsa := fun (AJ : Option Addr) (cJ : Nat) (w10 : World) (r10 : Rd w10 w10.heap.size AJ (by_ (bs ++ be 2 a2))) (g10 : Below W8.heap.size W8 w10) => same_two p1 AJ (bs ++ be 2 a2) (n + 2) (n + 2) cJ W8.heap.size w10.heap.size w10 (by rw [List.length_append, HN.out, be_length]) (by omega) (R1.below g10) r10
        have HSA := Lib.hid hsa
        clear hby hjo hsa
        go_region_held3 (fun w' => w'.cell? ⟨w6.heap.size, 1, none⟩ = some (.slice p1 (n + 2) (n + 2))) (exact HCA.out _ (by first | assumption | (apply Below.drew; assumption)))
          (first
            | (go_at_call 20; refine HBY.out.mono ?_; rintro e w9 ⟨AB, cB, rfl, r9, b9⟩; have g9 := hbd.trans (b9.mono hbd.size); have g9a := g9.alloc g9.size (.cells #[.slice A n c, .slice AB 2 cB] 22))
            | (go_at_call 19; refine (HJO.out AB cB w9 r9 g9).mono ?_; rintro e w10 ⟨AJ, cJ, rfl, r10, b10⟩; have g10 := g9.trans (b10.mono g9.size))
            | (go_at_call 18; refine (HSA.out AJ cJ w10 r10 g10).mono ?_; rintro e w11 ⟨rfl, b11⟩; have g11 := g10.trans (b11.mono g10.size)))
        go_wp2_with fail
        go_roundw
        case rel => exact ⟨1+1, by omega, by go_num, g11⟩
        case measure => simp [intOf]
      · have cw : wr.cell? ⟨w6.heap.size + 1, 2, none⟩ = some (.int .i64 4) := CW.out 2 wr hb
        have ca : ∀ W : World, Below W8.heap.size W8 W → W.cell? ⟨w6.heap.size, 2, none⟩ = some (.slice p2 (n + 4) (n + 4)) := CA.out 2 (by omega)
        have HCA := Lib.hid ca
        clear ca
        go_wp2_with fail
        rw [e4]
        have hbd := hb.drew
        have hby := bytes_two a4 4 4 wr.drew (by omega) (by omega) rfl
        have HBY := Lib.hid hby
        have hjo := fun (AB : Option Addr) (cB : Nat) (w9 : World) (r9 : Rd w9 w9.heap.size AB (by_ (be 4 a4))) (g9 : Below W8.heap.size W8 w9) => join_two A AB n c 4 cB w.heap.size bs (be 4 a4) w9 HN.out (be_length _ _) (by omega) (hr8.below (g9.mono z8)) (Nat.le_trans z8 g9.size) r9
        have HJO := Lib.hid hjo
        have hsa := fun (AJ : Option Addr) (cJ : Nat) (w10 : World) (r10 : Rd w10 w10.heap.size AJ (by_ (bs ++ be 4 a4))) (g10 : Below W8.heap.size W8 w10) => same_two p2 AJ (bs ++ be 4 a4) (n + 4) (n + 4) cJ W8.heap.size w10.heap.size w10 (by rw [List.length_append, HN.out, be_length]) (by omega) (R2.below g10) r10
        have HSA := Lib.hid hsa
        clear hby hjo hsa
        go_region_held3 (fun w' => w'.cell? ⟨w6.heap.size, 2, none⟩ = some (.slice p2 (n + 4) (n + 4))) (exact HCA.out _ (by first | assumption | (apply Below.drew; assumption)))
          (first
            | (go_at_call 20; refine HBY.out.mono ?_; rintro e w9 ⟨AB, cB, rfl, r9, b9⟩; have g9 := hbd.trans (b9.mono hbd.size); have g9a := g9.alloc g9.size (.cells #[.slice A n c, .slice AB 4 cB] 22))
            | (go_at_call 19; refine (HJO.out AB cB w9 r9 g9).mono ?_; rintro e w10 ⟨AJ, cJ, rfl, r10, b10⟩; have g10 := g9.trans (b10.mono g9.size))
            | (go_at_call 18; refine (HSA.out AJ cJ w10 r10 g10).mono ?_; rintro e w11 ⟨rfl, b11⟩; have g11 := g10.trans (b11.mono g10.size)))
        go_wp2_with fail
        go_roundw
        case rel => exact ⟨2+1, by omega, by go_num, g11⟩
        case measure => simp [intOf]
      · have cw : wr.cell? ⟨w6.heap.size + 1, 3, none⟩ = some (.int .i64 8) := CW.out 3 wr hb
        have ca : ∀ W : World, Below W8.heap.size W8 W → W.cell? ⟨w6.heap.size, 3, none⟩ = some (.slice p3 (n + 8) (n + 8)) := CA.out 3 (by omega)
        have HCA := Lib.hid ca
        clear ca
        go_wp2_with fail
        have hbd := hb.drew
        have hby := bytes_two v 8 8 wr.drew hv (by omega) rfl
        have HBY := Lib.hid hby
        have hjo := fun (AB : Option Addr) (cB : Nat) (w9 : World) (r9 : Rd w9 w9.heap.size AB (by_ (be 8 v))) (g9 : Below W8.heap.size W8 w9) => join_two A AB n c 8 cB w.heap.size bs (be 8 v) w9 HN.out (be_length _ _) (by omega) (hr8.below (g9.mono z8)) (Nat.le_trans z8 g9.size) r9
        have HJO := Lib.hid hjo
        have hsa := fun (AJ : Option Addr) (cJ : Nat) (w10 : World) (r10 : Rd w10 w10.heap.size AJ (by_ (bs ++ be 8 v))) (g10 : Below W8.heap.size W8 w10) => same_two p3 AJ (bs ++ be 8 v) (n + 8) (n + 8) cJ W8.heap.size w10.heap.size w10 (by rw [List.length_append, HN.out, be_length]) (by omega) (R3.below g10) r10
        have HSA := Lib.hid hsa
        clear hby hjo hsa
        go_region_held3 (fun w' => w'.cell? ⟨w6.heap.size, 3, none⟩ = some (.slice p3 (n + 8) (n + 8))) (exact HCA.out _ (by first | assumption | (apply Below.drew; assumption)))
          (first
            | (go_at_call 20; refine HBY.out.mono ?_; rintro e w9 ⟨AB, cB, rfl, r9, b9⟩; have g9 := hbd.trans (b9.mono hbd.size); have g9a := g9.alloc g9.size (.cells #[.slice A n c, .slice AB 8 cB] 22))
            | (go_at_call 19; refine (HJO.out AB cB w9 r9 g9).mono ?_; rintro e w10 ⟨AJ, cJ, rfl, r10, b10⟩; have g10 := g9.trans (b10.mono g9.size))
            | (go_at_call 18; refine (HSA.out AJ cJ w10 r10 g10).mono ?_; rintro e w11 ⟨rfl, b11⟩; have g11 := g10.trans (b11.mono g10.size)))
        go_wp2_with fail
        go_roundw
        case rel => exact ⟨3+1, by omega, by go_num, g11⟩
        case measure => simp [intOf]
      · have cw : wr.cell? ⟨w6.heap.size + 1, 4, none⟩ = some (.int .i64 2) := CW.out 4 wr hb
        have ca : ∀ W : World, Below W8.heap.size W8 W → W.cell? ⟨w6.heap.size, 4, none⟩ = some (.slice p4 (n + 2) (n + 2)) := CA.out 4 (by omega)
        have HCA := Lib.hid ca
        clear ca
        go_wp2_with fail
        rw [e2]
        have hbd := hb.drew
        have hby := bytes_two a2 2 2 wr.drew (by omega) (by omega) rfl
        have HBY := Lib.hid hby
        have hjo := fun (AB : Option Addr) (cB : Nat) (w9 : World) (r9 : Rd w9 w9.heap.size AB (by_ (be 2 a2))) (g9 : Below W8.heap.size W8 w9) => join_two A AB n c 2 cB w.heap.size bs (be 2 a2) w9 HN.out (be_length _ _) (by omega) (hr8.below (g9.mono z8)) (Nat.le_trans z8 g9.size) r9
        have HJO := Lib.hid hjo
        have hsa := fun (AJ : Option Addr) (cJ : Nat) (w10 : World) (r10 : Rd w10 w10.heap.size AJ (by_ (bs ++ be 2 a2))) (g10 : Below W8.heap.size W8 w10) => same_two p4 AJ (bs ++ be 2 a2) (n + 2) (n + 2) cJ W8.heap.size w10.heap.size w10 (by rw [List.length_append, HN.out, be_length]) (by omega) (R4.below g10) r10
        have HSA := Lib.hid hsa
        clear hby hjo hsa
        go_region_held3 (fun w' => w'.cell? ⟨w6.heap.size, 4, none⟩ = some (.slice p4 (n + 2) (n + 2))) (exact HCA.out _ (by first | assumption | (apply Below.drew; assumption)))
          (first
            | (go_at_call 20; refine HBY.out.mono ?_; rintro e w9 ⟨AB, cB, rfl, r9, b9⟩; have g9 := hbd.trans (b9.mono hbd.size); have g9a := g9.alloc g9.size (.cells #[.slice A n c, .slice AB 2 cB] 22))
            | (go_at_call 19; refine (HJO.out AB cB w9 r9 g9).mono ?_; rintro e w10 ⟨AJ, cJ, rfl, r10, b10⟩; have g10 := g9.trans (b10.mono g9.size))
            | (go_at_call 18; refine (HSA.out AJ cJ w10 r10 g10).mono ?_; rintro e w11 ⟨rfl, b11⟩; have g11 := g10.trans (b11.mono g10.size)))
        go_wp2_with fail
        go_roundw
        case rel => exact ⟨4+1, by omega, by go_num, g11⟩
        case measure => simp [intOf]
    · clear CW CA R0 R1 R2 R3 R4 e1 e2 e4
      have five := FV.out
      have wb : Below w1.heap.size w1 wr := dW.trans (hb.mono dW.size)
      have fv8 : Five wr w6.heap.size w1.heap.size (f5 (.slice p0 (n + 1) (n + 1)) (.slice p1 (n + 2) (n + 2)) (.slice p2 (n + 4) (n + 4)) (.slice p3 (n + 8) (n + 8)) (.slice p4 (n + 2) (n + 2))) (f5 (n + 1) (n + 2) (n + 4) (n + 8) (n + 2)) (f5 (by_ (bs ++ be 1 a1)) (by_ (bs ++ be 2 a2)) (by_ (bs ++ be 4 a4)) (by_ (bs ++ be 8 v)) (by_ (bs ++ be 2 a2))) := five.below hb
      have lb0 : LenB n 0 (f5 (n + 1) (n + 2) (n + 4) (n + 8) (n + 2)) := by
        refine ⟨fun j hj => ?_, fun j _ hj => ?_⟩ <;> rcases (by omega : j = 0 ∨ j = 1 ∨ j = 2 ∨ j = 3 ∨ j = 4) with rfl | rfl | rfl | rfl | rfl <;> simp [f5]
      clear five FV WD
      obtain ⟨sv, lv, xv, fv, lb⟩ : ∃ sv lv xv, Five wr w6.heap.size w1.heap.size sv lv xv ∧ LenB n 0 lv := ⟨_, _, _, fv8, lb0⟩
      clear fv8 lb0 hb dd1 hr8 z8 dW
      have dn : Done 0 lv xv := fun j hj => absurd hj (by omega)
      obtain ⟨i0, hi0, hz0, hz1, hz2⟩ := info_parts byte_info
      go_wp2_with fail
      go_loopw [16] (fun i wr => ∃ (k : Nat) (s : Nat → Value) (l : Nat → Nat) (x : Nat → List Value), k ≤ 5 ∧ i = .int .i64 k ∧ Five wr w6.heap.size w1.heap.size s l x ∧ LenB n k l ∧ Done k l x ∧ Below w1.heap.size w1 wr) (fun i _ => 5 - (intOf i).toNat)
      case atStart => exact ⟨0, sv, lv, xv, by omega, rfl, fv, lb, dn, wb⟩
      case round =>
        clear fv lb dn wb
        obtain ⟨k, s, l, x, hk, rfl, fv, lb, dn, wb⟩ := hrel
        by_cases hlt : k < 5
        · have wk : IntKind.u8.wrap (k : Int) = (k : Int) := by rw [IntKind.wrap_u8']; omega
          have wk2 : (k : Int) % 256 = (k : Int) := by omega
          have kp : (0 : Int) ≤ (k : Int) := by omega
          have k5 : (k : Int) < 5 := by omega
          have st := In1.start lb dn
          go_wp2_with fail
          go_loopw [17] (fun i wr => ∃ (q : Nat) (s : Nat → Value) (l : Nat → Nat) (x : Nat → List Value), i = .int .i64 q ∧ Five wr w6.heap.size w1.heap.size s l x ∧ In1 n k q l x ∧ Below w1.heap.size w1 wr) (fun i _ => n + 8 - (intOf i).toNat)
          case atStart => exact ⟨0, s, l, x, rfl, fv, st, wb⟩
          case round =>
            clear fv lb dn wb st s l x
            obtain ⟨q, s, l, x, rfl, fv, st, wb⟩ := hrel
            obtain ⟨g, cap, hsg, gb, glt, gne, c3, c4⟩ := fv.form hlt
            have hce := fv.cell hlt
            have hl8 : l k ≤ n + 8 := st.1.2 k (Nat.le_refl _) hlt
            have hxl : (x k).length = l k := by have := (fv.2.1 k hlt).1.1; omega
            have ho := (fv.2.1 k hlt).1
            rw [hsg] at hce ho
            obtain ⟨m, hm⟩ : ∃ m : Nat, l k = m := ⟨_, rfl⟩
            by_cases hq : q < l k
            · have cq : wr.cell? ⟨g, q, none⟩ = some ((x k)[q]'(by omega)) := by rw [ho.cellAt q (by omega)]; exact List.getElem?_eq_getElem _
              have fq := ho.frozenAt q
              have fv2 := Lib.hid (fv.store (k := q) hlt hsg (bv k))
              have st2 := Lib.hid (st.step hq hxl)
              have wb2 : Hid (Below w1.heap.size w1 (wr.setCell ⟨g, q, none⟩ (bv k))) := Lib.hid (wb.setCell (p := ⟨g, q, none⟩) gb _)
              rw [hm] at hce hq hl8
              have q0 : (0 : Int) ≤ (q : Int) := by omega
              have q1 : (q : Int) < (m : Int) := by omega
              generalize (x k)[q]'(by omega) = old at cq
              clear fv st wb ho hsg hxl hm
              go_wp2_with fail
              go_roundw
              case rel => exact ⟨q + 1, s, l, _, by go_num, fv2.out, st2.out, wb2.out⟩
              case measure => simp [intOf]; omega
            · have s2 := st.stop hlt hq hxl
              rw [hm] at hce hq
              have q1 : (m : Int) ≤ (q : Int) := by omega
              clear st ho hsg hxl
              go_wp2_with fail
              go_loopw [18] (fun i wr => ∃ (r : Nat) (s : Nat → Value) (l : Nat → Nat) (x : Nat → List Value), r ≤ 20 ∧ i = .int .i64 r ∧ Five wr w6.heap.size w1.heap.size s l x ∧ In2 n k r l x ∧ Below w1.heap.size w1 wr) (fun i _ => 20 - (intOf i).toNat)
              case atStart => exact ⟨0, s, l, x, by omega, rfl, fv, s2, wb⟩
              case round =>
                clear fv s2 wb hm q1 hce hq hl8
                clear glt gne c3 c4 gb
                clear s l x
                obtain ⟨r, s, l, x, hr20, rfl, fv, st, wb⟩ := hrel
                by_cases h20 : r < 20
                · obtain ⟨g, cap, hsg, gb, glt, gne, c3, c4⟩ := fv.form hlt
                  have hce := fv.cell hlt
                  have hl8 : l k ≤ n + 8 + r := st.2.1
                  have ho := (fv.2.1 k hlt).1
                  have wbz := wb.size
                  have d6z := d6.size
                  rw [hsg] at hce ho
                  obtain ⟨m, hm⟩ : ∃ m : Nat, l k = m := ⟨_, rfl⟩
                  rw [hm] at hce ho hl8
                  have hlit := (Blk.new wr 5 #[.int .u8 (k : Int)]).rd
                  have h1c : ∀ u ∈ [Value.int .u8 (k : Int)], u.oneCell' = true := by intro u hu; simp at hu; subst hu; rfl
                  have hca : ∀ o : Obj, (wr.alloc o).cell? ⟨w6.heap.size, k, none⟩ = some (.slice (some ⟨g, 0, none⟩) m cap) := fun o => (World.cell?_alloc_lt wr o _ fv.1.lt).trans hce
                  go_wp2_with (at_builtin; refine wpList_app rfl _ _ 22 rfl w1.heap.size 5 i0 _ 1 Try.underlying22 hi0 hz0 hz1 hz2 rfl (.slice (some ⟨g, 0, none⟩) m cap) m (x k) rfl (ho.alloc _) (wr.heap.size + 1) (some ⟨wr.heap.size, 0, none⟩) 1 1 [.int .u8 (k : Int)] rfl hlit rfl h1c (by omega) (by omega) (by simp; omega) ?_; intro v2 w2 hown2 hg2 hat2; obtain ⟨A2, c2, rfl, _⟩ := rd_own hown2; have blk2 := (fv.1.alloc (.cells #[.int .u8 (k : Int)] 5)).grown hg2 (by simpa [Value.ownBlock] using fun e => gne e.symm); have cc2 : w2.cell? ⟨w6.heap.size, k, none⟩ = some (s k) := (blk2.cell k).trans (l5_at s hlt); rw [hsg, hm] at cc2; have ff2 := blk2.frozen k)
                  have fv2 := Lib.hid (fv.append (w' := w2) hlt (by rw [hm]; exact hown2) (by rw [hsg, hm]; exact hg2) (by rw [hsg, hm]; simpa using hat2))
                  have st2 := Lib.hid (st.step hlt h20)
                  have wb2 := Lib.hid ((app_below (wb.alloc wbz _) (ho.alloc _) hg2 (by simp; omega)).setCell (p := ⟨w6.heap.size, k, none⟩) d6z (.slice A2 (m + 1) c2))
                  rw [hm] at st2
                  go_roundw
                  case rel => exact ⟨r + 1, _, _, _, by omega, by go_num, fv2.out, by rw [hm] at *; exact st2.out, wb2.out⟩
                  case measure => simp [intOf]; omega
                · have s3 := st.stop
                  have r20 : r = 20 := by omega
                  subst r20
                  clear hr20 h20
                  go_wp2_with fail
                  go_roundw
                  case rel => exact ⟨k + 1, s, l, x, by omega, by go_num, fv, s3.1, s3.2, wb⟩
                  case measure => simp [intOf]; omega
        · have full : Below w.heap.size w wr := b1.trans (wb.mono b1.size)
          have k5 : k = 5 := by omega
          subst k5
          have HK := Lib.hid (kept_any A bs n c cap0 g0 w.heap.size w1.heap.size wr HN.out (by omega) hs (hr.below full) c1 c2 (r0.below wb))
          clear hr r0 r1 hk hlt wb
          go_wp2_with fail
          go_loop [19] (fun i => ∃ j : Nat, j ≤ 5 ∧ i = .int .i64 j) (fun i => 5 - (intOf i).toNat)
          case atStart => exact ⟨0, by omega, rfl⟩
          case round =>
            obtain ⟨j, hj, rfl⟩ := hrel
            by_cases hl : j < 5
            · have wk : IntKind.u8.wrap (j : Int) = (j : Int) := by rw [IntKind.wrap_u8']; omega
              have wk2 : (j : Int) % 256 = (j : Int) := by omega
              have kp : (0 : Int) ≤ (j : Int) := by omega
              have k5 : (j : Int) < 5 := by omega
              obtain ⟨g, cap, hsg, gb, glt, gne, c3, c4⟩ := fv.form hl
              have hce := fv.cell hl
              have ho := (fv.2.1 j hl).1
              have hx := dn j hl
              rw [hsg] at hce ho
              obtain ⟨m, hm⟩ : ∃ m : Nat, l j = m := ⟨_, rfl⟩
              have mb : m ≤ n + 28 := by rw [← hm]; exact lb.1 j hl
              rw [hm] at hce ho hx
              have hcq : ∀ q : Nat, q < m → wr.cell? ⟨g, q, none⟩ = some (.int .u8 (j : Int)) := fun q hq => by
                rw [ho.cellAt q (by omega), hx, List.getElem?_replicate, if_pos hq]
                rfl
              have HCQ := Lib.hid hcq
              clear hcq ho hx hm hsg gb glt gne c3 c4
              go_wp2_with fail
              go_loop [20] (fun i => ∃ q : Nat, q ≤ m ∧ i = .int .i64 q) (fun i => m - (intOf i).toNat)
              case atStart => exact ⟨0, by omega, rfl⟩
              case round =>
                obtain ⟨q, hq, rfl⟩ := hrel
                by_cases hq2 : q < m
                · have cq := HCQ.out q hq2
                  have q1 : (q : Int) < (m : Int) := by omega
                  have q0 : (0 : Int) ≤ (q : Int) := by omega
                  go_wp2_with fail
                  go_round
                  case rel => exact ⟨q + 1, by omega, by go_num⟩
                  case measure => simp [intOf]; omega
                · have q1 : (m : Int) ≤ (q : Int) := by omega
                  go_wp2_with fail
                  go_round
                  case rel => exact ⟨j + 1, by omega, by go_num⟩
                  case measure => simp [intOf]; omega
            · have j5 : j = 5 := by omega
              subst j5
              go_wp2_with (first
                | (go_at_call 21; refine HK.out.mono ?_; rintro e w9 ⟨rfl, d, rfl⟩)
                | (go_at_call 22; refine (works_any _).mono ?_; rintro e w10 ⟨rfl, hb10⟩))
              have hd : Below w.heap.size w (wr.drewN d) := ⟨full.os, full.tape, full.output, full.size, full.block⟩
              go_ret
              exact ⟨rfl, hd.trans (hb10.mono hd.size)⟩
end Go.Proofs.Ytbnkmfmbbbcogaa.oc
