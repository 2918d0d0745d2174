/-
  queue's works, width; the calls under no gate.
-/
import Derived.Test.YtlpgdpdjaoppbaaQuDr
import Derived.Test.YtlpgdpdjaoppbaaMzSame
set_option linter.unusedVariables false
namespace Go.Proofs.Ytlpgdpdjaoppbaa.qu
open Go.RowKit Go.Proofs.Ytlpgdpdjaoppbaa.oc Go.Proofs.Ytlpgdpdjaoppbaa.mz Go.Proofs.Ytlpgdpdjaoppbaa.at_ Go.Proofs.Ytlpgdpdjaoppbaa.gt Go.Proofs.Ytlpgdpdjaoppbaa.gw
section
variable {Q W n c : Nat} {ws row : List Nat} {w : World}
theorem Qu.st0 (h : Qu w Q W n ws) : St w Q W n 0 ws .nilIface [] (fun _ => False) := ⟨h, GF.nil_ _ _ _ _, fun z => z, fun z => z⟩
theorem Left.keep0 {N : Nat} {ws' : List Nat} {gv : Value} {ms' : List (Nat × Nat)} {w' : World} (l : Left Q W n N ws' gv ms' (fun _ => False) w w') : Keeps (· = W) w w' := l.keep.mono (fun b _ z => by rcases z with z | z; exact z; exact z.elim)
theorem put0_yes (v : Nat) (h : Qu w Q W n ws) (hk : Lk n ws row c) (hc : c < 800000) (hr : row.length < n) (hv : v < 18446744073709551616) :
    Calls Try.prog 9 #[.pointer (some ⟨Q, 0, none⟩), .nilIface, .int .u64 (v : Int)] w fun e w' => e = .returned (.tuple #[.bool true, .int .i64 0]) ∧ Qu w' Q W n (putW n v ws) ∧ Keeps (· = W) w w' := by
  refine (put_yes Q W n 0 ws row c .nilIface [] _ w v h.st0 (by simp) hk hc hr hv).mono ?_
  rintro e w' ⟨rfl, l⟩
  exact ⟨rfl, l.qu, l.keep0⟩
theorem put0_no (v : Int) (h : Qu w Q W n ws) (hk : Lk n ws row c) (hc : c < 800000) (hr : ¬ row.length < n) :
    Calls Try.prog 9 #[.pointer (some ⟨Q, 0, none⟩), .nilIface, .int .u64 v] w fun e w' => e = .returned (.tuple #[.bool false, .int .i64 0]) ∧ Qu w' Q W n ws ∧ Keeps (· = W) w w' := by
  refine (put_no Q W n 0 ws row c .nilIface [] _ w v h.st0 (by simp) hk hc hr).mono ?_
  rintro e w' ⟨rfl, l⟩
  exact ⟨rfl, l.qu, l.keep0⟩
theorem take0_yes (x : Nat) (h : Qu w Q W n ws) (hk : Lk n ws (x :: row) c) (hc : c < 800000) :
    Calls Try.prog 10 #[.pointer (some ⟨Q, 0, none⟩), .nilIface] w fun e w' => e = .returned (.tuple #[.int .u64 (x : Int), .bool true, .int .i64 0]) ∧ Qu w' Q W n (takeW n ws) ∧ Keeps (· = W) w w' := by
  refine (take_yes Q W n 0 ws row c .nilIface [] _ w x h.st0 (by simp) hk hc).mono ?_
  rintro e w' ⟨rfl, l⟩
  exact ⟨rfl, l.qu, l.keep0⟩
theorem take0_no (h : Qu w Q W n ws) (hk : Lk n ws [] c) (hc : c < 800000) :
    Calls Try.prog 10 #[.pointer (some ⟨Q, 0, none⟩), .nilIface] w fun e w' => e = .returned (.tuple #[.int .u64 0, .bool false, .int .i64 0]) ∧ Qu w' Q W n ws ∧ Keeps (· = W) w w' := by
  refine (take_no Q W n 0 ws c .nilIface [] _ w h.st0 (by simp) hk hc).mono ?_
  rintro e w' ⟨rfl, l⟩
  exact ⟨rfl, l.qu, l.keep0⟩
theorem drain0 (h : Qu w Q W n ws) (hk : Lk n ws row c) (hc : c < 800000) :
    Calls Try.prog 11 #[.pointer (some ⟨Q, 0, none⟩), .nilIface] w fun e w' => ∃ A cap, e = .returned (.tuple #[.slice A row.length cap, .int .i64 0]) ∧ Que w' w.heap.size 31 (.slice A row.length cap) (u64s row) ∧ Qu w' Q W n (drainW n row ws) ∧ Keeps (· = W) w w' := by
  refine (drain_ Q W n 0 ws row c .nilIface [] _ w h.st0 (by simp) hk hc (fun b z => z.elim)).mono ?_
  rintro e w' ⟨v, F', rfl, hq, s, k⟩
  obtain ⟨A, cap, rfl⟩ := hq.form
  rw [u64s_len] at hq ⊢
  exact ⟨A, cap, rfl, hq, s.qu, k.mono (fun b _ z => by rcases z with z | z; exact z; exact z.elim)⟩
end
set_option maxRecDepth 100000 in
set_option maxHeartbeats 2000000 in
theorem works_ (w : World) : Calls Try.prog 5 #[] w fun e w' => e = .returned (.bool true) ∧ ∀ S, Keeps S w w' := by
  have HNEW := Lib.hid (new_ok 2 w (by decide))
  have hc2 : ((2 : Nat) : Int) = 2 := rfl
  rw [hc2] at HNEW
  clear hc2
  go_enter Try.func5, Try.ntmps5
  go_wp2_with fail
  refine HNEW.out.mono ?_
  rintro e w1 ⟨R, W, rfl, r1, hR, hW, k1⟩
  have K1 : Hid (∀ S, Keeps S w w1) := Lib.hid k1
  have HW : Hid (w.heap.size ≤ W) := Lib.hid hW
  have l0 : Lk 2 (startW 2) [] 0 := Lk.start (by decide)
  have HP := Lib.hid (put0_yes 5 r1 l0 (by decide) (by decide) (by omega))
  have l1 : Lk 2 (putW 2 5 (startW 2)) [5] 1 := l0.put (by decide)
  have L1 := Lib.hid l1
  clear r1 k1 hR hW l0 l1
  go_wp2_with fail
  refine HP.out.mono ?_
  rintro e w2 ⟨rfl, r2, k2⟩
  have HP2 := Lib.hid (take0_yes 5 r2 L1.out (by decide))
  have L2 := Lib.hid L1.out.take
  have K2 := Lib.hid k2
  clear r2 k2
  go_wp2_with fail
  refine HP2.out.mono ?_
  rintro e w3 ⟨rfl, r3, k3⟩
  have HP3 := Lib.hid (take0_no r3 L2.out (by decide))
  have K3 := Lib.hid k3
  clear r3 k3
  go_wp2_with fail
  refine HP3.out.mono ?_
  rintro e w4 ⟨rfl, r4, k4⟩
  have K4 := Lib.hid k4
  clear r4 k4
  go_wp2
  go_ret
  refine ⟨rfl, fun S => ?_⟩
  have hw := HW.out
  have k : Keeps (· = W) w w4 := (((K1.out _).trans K2.out).trans K3.out).trans K4.out
  exact k.mono (fun b hb e => by omega)
set_option maxRecDepth 100000 in
set_option maxHeartbeats 1000000 in
theorem width_ (s : Int) (w : World) (h1 : -9223372036854775808 ≤ s) (h2 : s ≤ 9223372036854775807) : Calls Try.prog 6 #[.int .i64 s] w fun e w' => ∃ n : Nat, e = .returned (.int .i64 (n : Int)) ∧ (n = 2 ∨ n = 4 ∨ n = 8) ∧ w = w' := by
  have HWI := Lib.hid (within_ s 3 w (by omega) (by omega) h1 h2)
  have hr : s % 3 = 0 ∨ s % 3 = 1 ∨ s % 3 = 2 := by omega
  have hcast : ((3 : Nat) : Int) = 3 := rfl
  rw [hcast] at HWI
  generalize s % 3 = r at *
  clear hcast h1 h2
  rcases hr with rfl | rfl | rfl
  all_goals
    go_enter Try.func6, Try.ntmps6
    go_wp2_with fail
    refine HWI.out.mono ?_
    rintro e w1 ⟨rfl, rfl⟩
    go_wp2
    go_ret
    first
      | exact ⟨2, rfl, by decide, rfl⟩
      | exact ⟨4, rfl, by decide, rfl⟩
      | exact ⟨8, rfl, by decide, rfl⟩
end Go.Proofs.Ytlpgdpdjaoppbaa.qu
