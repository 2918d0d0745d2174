/-
  ring's works, width; the calls under no gate.
-/
import Derived.Test.YtmkgjiejkfbdlaaRgNew
import Derived.Test.YtmkgjiejkfbdlaaMzSame
set_option linter.unusedVariables false
namespace Go.Proofs.Ytmkgjiejkfbdlaa.rg
open Go.RowKit Go.Proofs.Ytmkgjiejkfbdlaa.oc Go.Proofs.Ytmkgjiejkfbdlaa.mz Go.Proofs.Ytmkgjiejkfbdlaa.at_ Go.Proofs.Ytmkgjiejkfbdlaa.gt
section
variable {R W n : Nat} {ws : List Nat} {w : World}
theorem Rg.ltR (h : Rg w R W n ws) : R < w.heap.size := h.blk.lt
theorem Rg.ltW (h : Rg w R W n ws) : W < w.heap.size := h.row.lt
theorem put0_yes (v : Nat) (h : Rg w R W n ws) (hd : dif ws < n) (hv : v < 18446744073709551616) :
    Calls Try.prog 9 #[.pointer (some ⟨R, 0, none⟩), .nilIface, .int .u64 (v : Int)] w fun e w' => e = .returned (.tuple #[.bool true, .int .i64 0]) ∧ Rg w' R W n ((ws.set (slotOf n (ws[1]?.getD 0)) v).set 1 ((ws[1]?.getD 0 + 1) % 18446744073709551616)) ∧ Keeps (· = W) w w' := by
  refine (put_yes R W n w.heap.size ws .nilIface [] w v h (Gate.nil_ _ _ _) (by simp) h.ltR h.ltW hd hv).mono ?_
  rintro e w' ⟨rfl, l⟩
  exact ⟨rfl, l.ring, l.keep.mono (fun b hb z => by omega)⟩
theorem put0_no (v : Int) (h : Rg w R W n ws) (hd : ¬ dif ws < n) :
    Calls Try.prog 9 #[.pointer (some ⟨R, 0, none⟩), .nilIface, .int .u64 v] w fun e w' => e = .returned (.tuple #[.bool false, .int .i64 0]) ∧ Rg w' R W n ws ∧ Keeps (· = W) w w' := by
  refine (put_no R W n w.heap.size ws .nilIface [] w v h (Gate.nil_ _ _ _) (by simp) h.ltR h.ltW hd).mono ?_
  rintro e w' ⟨rfl, l⟩
  exact ⟨rfl, l.ring, l.keep.mono (fun b hb z => by omega)⟩
theorem take0_yes (h : Rg w R W n ws) (hd : ¬ ws[0]?.getD 0 = ws[1]?.getD 0) :
    Calls Try.prog 10 #[.pointer (some ⟨R, 0, none⟩), .nilIface] w fun e w' => e = .returned (.tuple #[.int .u64 ((ws[slotOf n (ws[0]?.getD 0)]?.getD 0 : Nat) : Int), .bool true, .int .i64 0]) ∧ Rg w' R W n (ws.set 0 ((ws[0]?.getD 0 + 1) % 18446744073709551616)) ∧ Keeps (· = W) w w' := by
  refine (take_yes R W n w.heap.size ws .nilIface [] w h (Gate.nil_ _ _ _) (by simp) h.ltR h.ltW hd).mono ?_
  rintro e w' ⟨rfl, l⟩
  exact ⟨rfl, l.ring, l.keep.mono (fun b hb z => by omega)⟩
theorem take0_no (h : Rg w R W n ws) (hd : ws[0]?.getD 0 = ws[1]?.getD 0) :
    Calls Try.prog 10 #[.pointer (some ⟨R, 0, none⟩), .nilIface] w fun e w' => e = .returned (.tuple #[.int .u64 0, .bool false, .int .i64 0]) ∧ Rg w' R W n ws ∧ Keeps (· = W) w w' := by
  refine (take_no R W n w.heap.size ws .nilIface [] w h (Gate.nil_ _ _ _) (by simp) h.ltR h.ltW hd).mono ?_
  rintro e w' ⟨rfl, l⟩
  exact ⟨rfl, l.ring, l.keep.mono (fun b hb z => by omega)⟩
theorem len0 (h : Rg w R W n ws) :
    Calls Try.prog 11 #[.pointer (some ⟨R, 0, none⟩), .nilIface] w fun e w' => e = .returned (.tuple #[.int .i64 ((min (dif ws) n : Nat) : Int), .int .i64 0]) ∧ Rg w' R W n ws ∧ Keeps (· = W) w w' := by
  refine (len_ R W n w.heap.size ws .nilIface [] w h (Gate.nil_ _ _ _) (by simp) h.ltR h.ltW).mono ?_
  rintro e w' ⟨rfl, l⟩
  exact ⟨rfl, l.ring, l.keep.mono (fun b hb z => by omega)⟩
end
set_option maxRecDepth 100000 in
set_option maxHeartbeats 2000000 in
theorem works_ (w : World) : Calls Try.prog 5 #[] w fun e w' => e = .returned (.bool true) ∧ ∀ S, Keeps S w w' := by
  have HNEW := Lib.hid (new_ok 2 w (by decide))
  have hc2 : ((2 : Nat) : Int) = 2 := rfl
  rw [hc2] at HNEW
  clear hc2
  go_enter Try.func5, Try.ntmps5
  go_wp2_with fail
  refine HNEW.out.mono ?_
  rintro e w1 ⟨R, W, rfl, r1, hR, hW, k1⟩
  have K1 : Hid (∀ S, Keeps S w w1) := Lib.hid k1
  have HW : Hid (w.heap.size ≤ W) := Lib.hid hW
  have HP := Lib.hid (put0_yes 5 r1 (by decide +kernel) (by omega))
  clear r1 k1 hR hW
  go_wp2_with fail
  refine HP.out.mono ?_
  rintro e w2 ⟨rfl, r2, k2⟩
  have e2 : ((List.replicate (2 + 2) 0).set (slotOf 2 ((List.replicate (2 + 2) 0)[1]?.getD 0)) 5).set 1 (((List.replicate (2 + 2) 0)[1]?.getD 0 + 1) % 18446744073709551616) = [0, 1, 5, 0] := by decide +kernel
  rw [e2] at r2
  have HP2 := Lib.hid (put0_yes 6 r2 (by decide +kernel) (by omega))
  have K2 := Lib.hid k2
  clear r2 k2 e2
  go_wp2_with fail
  refine HP2.out.mono ?_
  rintro e w3 ⟨rfl, r3, k3⟩
  have e3 : (([0, 1, 5, 0] : List Nat).set (slotOf 2 (([0, 1, 5, 0] : List Nat)[1]?.getD 0)) 6).set 1 ((([0, 1, 5, 0] : List Nat)[1]?.getD 0 + 1) % 18446744073709551616) = [0, 2, 5, 6] := by decide +kernel
  rw [e3] at r3
  have HP3 := Lib.hid (put0_no 7 r3 (by decide +kernel))
  have K3 := Lib.hid k3
  clear r3 k3 e3
  go_wp2_with fail
  refine HP3.out.mono ?_
  rintro e w4 ⟨rfl, r4, k4⟩
  have HP4 := Lib.hid (take0_yes r4 (by decide +kernel))
  have e4 : (([0, 2, 5, 6] : List Nat)[slotOf 2 (([0, 2, 5, 6] : List Nat)[0]?.getD 0)]?.getD 0) = 5 := by decide +kernel
  have e5 : (([0, 2, 5, 6] : List Nat).set 0 ((([0, 2, 5, 6] : List Nat)[0]?.getD 0 + 1) % 18446744073709551616)) = [1, 2, 5, 6] := by decide +kernel
  rw [e4, e5] at HP4
  have K4 := Lib.hid k4
  clear r4 k4 e4 e5
  go_wp2_with fail
  refine HP4.out.mono ?_
  rintro e w5 ⟨rfl, r5, k5⟩
  have HP5 := Lib.hid (len0 r5)
  have e6 : min (dif [1, 2, 5, 6]) 2 = 1 := by decide +kernel
  rw [e6] at HP5
  have K5 := Lib.hid k5
  clear r5 k5 e6
  go_wp2_with fail
  refine HP5.out.mono ?_
  rintro e w6 ⟨rfl, r6, k6⟩
  have K6 := Lib.hid k6
  clear r6 k6
  go_wp2
  go_ret
  refine ⟨rfl, fun S => ?_⟩
  have hw := HW.out
  have k : Keeps (· = W) w w6 := (((((K1.out _).trans K2.out).trans K3.out).trans K4.out).trans K5.out).trans K6.out
  exact k.mono (fun b hb e => by omega)
set_option maxRecDepth 100000 in
set_option maxHeartbeats 1000000 in
theorem width_ (s : Int) (w : World) (h1 : -9223372036854775808 ≤ s) (h2 : s ≤ 9223372036854775807) : Calls Try.prog 6 #[.int .i64 s] w fun e w' => ∃ n : Nat, e = .returned (.int .i64 (n : Int)) ∧ (n = 1 ∨ n = 2 ∨ n = 4 ∨ n = 8) ∧ w = w' := by
  have HWI := Lib.hid (within_ s 4 w (by omega) (by omega) h1 h2)
  have hr : s % 4 = 0 ∨ s % 4 = 1 ∨ s % 4 = 2 ∨ s % 4 = 3 := by omega
  have hcast : ((4 : Nat) : Int) = 4 := rfl
  rw [hcast] at HWI
  generalize s % 4 = r at *
  clear hcast h1 h2
  rcases hr with rfl | rfl | rfl | rfl
  all_goals
    go_enter Try.func6, Try.ntmps6
    go_wp2_with fail
    refine HWI.out.mono ?_
    rintro e w1 ⟨rfl, rfl⟩
    go_wp2
    go_ret
    first
      | exact ⟨1, rfl, by decide, rfl⟩
      | exact ⟨2, rfl, by decide, rfl⟩
      | exact ⟨4, rfl, by decide, rfl⟩
      | exact ⟨8, rfl, by decide, rfl⟩
end Go.Proofs.Ytmkgjiejkfbdlaa.rg
