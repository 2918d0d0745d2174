/-
  patchbayref12's Plus, Minus, Above.
-/
import Derived.Test.YtbiadglhfpapaaaBkW
set_option linter.unusedVariables false
namespace Go.Proofs.Ytbiadglhfpapaaa.bk
open Go.RowKit Go.Proofs.Ytbiadglhfpapaaa.oc Go.Proofs.Ytbiadglhfpapaaa.mz
theorem wd_parts (x : Nat) : ∃ a b, x = a * 18446744073709551616 + b ∧ b < 18446744073709551616 ∧ wd x = .agg #[.int .u64 (a : Int), .int .u64 (b : Int)] :=
  ⟨x / 18446744073709551616, x % 18446744073709551616, by omega, by omega, rfl⟩
/-- a result that lies below another block -/
theorem res_under (w : World) (T : TypeId) (o1 o2 o4 : Obj) (hi lo : Int) (x : Nat) (h1 : hi = ((x / 18446744073709551616 : Nat) : Int)) (h2 : lo = ((x % 18446744073709551616 : Nat) : Int)) :
    ((((w.alloc o1).alloc o2).alloc (.cells #[.int .u64 hi, .int .u64 lo] T)).alloc o4).cell? ⟨w.heap.size + 1 + 1, 0, none⟩ = some (.int .u64 ((x / 18446744073709551616 : Nat) : Int)) ∧ ((((w.alloc o1).alloc o2).alloc (.cells #[.int .u64 hi, .int .u64 lo] T)).alloc o4).cell? ⟨w.heap.size + 1 + 1, 1, none⟩ = some (.int .u64 ((x % 18446744073709551616 : Nat) : Int)) := by
  have b := (Blk.new ((w.alloc o1).alloc o2) T #[.int .u64 hi, .int .u64 lo]).alloc o4
  rw [World.size_alloc, World.size_alloc] at b
  exact res_two b h1 h2
theorem keeps4 (w : World) (o1 o2 o3 o4 : Obj) : ∀ S, Keeps S w ((((w.alloc o1).alloc o2).alloc o3).alloc o4) := fun S => ((((Keeps.refl S w).alloc _).alloc _).alloc _).alloc _
section
variable (w : World)
set_option maxRecDepth 100000 in
set_option maxHeartbeats 1000000 in
theorem plus_ (x y : Nat) (h : x + y < 340282366920938463463374607431768211456) : Calls Try.prog 36 #[wd x, wd y] w fun e w' => e = .returned (wd (x + y)) ∧ ∀ S, Keeps S w w' := by
  obtain ⟨a, b, hx, hb, ex⟩ := wd_parts x
  obtain ⟨c, d, hy, hd, ey⟩ := wd_parts y
  rw [ex, ey]
  rcases Nat.lt_or_ge (b + d) 18446744073709551616 with hc | hc
  · have e1 : IntKind.u64.wrap ((a : Int) + (c : Int)) = (((x + y) / 18446744073709551616 : Nat) : Int) := by rw [wrap_u64]; omega
    have e2 : IntKind.u64.wrap ((b : Int) + (d : Int)) = (((x + y) % 18446744073709551616 : Nat) : Int) := by rw [wrap_u64]; omega
    have hn : ¬ IntKind.u64.wrap ((b : Int) + (d : Int)) < (b : Int) := by rw [wrap_u64]; omega
    have HR := Lib.hid (res_under w 60 (.cells #[.int .u64 (a : Int), .int .u64 (b : Int)] 60) (.cells #[.int .u64 (c : Int), .int .u64 (d : Int)] 60) (.cells #[.int .u64 (IntKind.u64.wrap ((a : Int) + (c : Int))), .int .u64 (IntKind.u64.wrap ((b : Int) + (d : Int)))] 60) _ _ (x + y) e1 e2)
    clear e1 e2 hc hx hy hb hd ex ey h
    go_enter Try.func36, Try.ntmps36
    go_wp2
    obtain ⟨r0, r1⟩ := HR.out
    refine bodyPost_ret (v := wd (x + y)) (by simp [results, Try.results36, go_sem, r0, r1, wd]) rfl ⟨rfl, keeps4 _ _ _ _ _⟩
  · have e1 : IntKind.u64.wrap (IntKind.u64.wrap ((a : Int) + (c : Int)) + 1) = (((x + y) / 18446744073709551616 : Nat) : Int) := by rw [wrap_u64, wrap_u64]; omega
    have e2 : IntKind.u64.wrap ((b : Int) + (d : Int)) = (((x + y) % 18446744073709551616 : Nat) : Int) := by rw [wrap_u64]; omega
    have hn : IntKind.u64.wrap ((b : Int) + (d : Int)) < (b : Int) := by rw [wrap_u64]; omega
    have HR := Lib.hid (res_under w 60 (.cells #[.int .u64 (a : Int), .int .u64 (b : Int)] 60) (.cells #[.int .u64 (c : Int), .int .u64 (d : Int)] 60) (.cells #[.int .u64 (IntKind.u64.wrap (IntKind.u64.wrap ((a : Int) + (c : Int)) + 1)), .int .u64 (IntKind.u64.wrap ((b : Int) + (d : Int)))] 60) _ _ (x + y) e1 e2)
    clear e1 e2 hc hx hy hb hd ex ey h
    go_enter Try.func36, Try.ntmps36
    go_wp2
    obtain ⟨r0, r1⟩ := HR.out
    refine bodyPost_ret (v := wd (x + y)) (by simp [results, Try.results36, go_sem, r0, r1, wd]) rfl ⟨rfl, keeps4 _ _ _ _ _⟩
set_option maxRecDepth 100000 in
set_option maxHeartbeats 1000000 in
theorem minus_ (x y : Nat) (hx : x < 340282366920938463463374607431768211456) (h : y ≤ x) : Calls Try.prog 39 #[wd x, wd y] w fun e w' => e = .returned (wd (x - y)) ∧ ∀ S, Keeps S w w' := by
  obtain ⟨a, b, ha, hb, ex⟩ := wd_parts x
  obtain ⟨c, d, hy, hd, ey⟩ := wd_parts y
  rw [ex, ey]
  rcases Nat.lt_or_ge b d with hc | hc
  · have e1 : IntKind.u64.wrap (IntKind.u64.wrap ((a : Int) - (c : Int)) - 1) = (((x - y) / 18446744073709551616 : Nat) : Int) := by rw [wrap_u64, wrap_u64]; omega
    have e2 : IntKind.u64.wrap ((b : Int) - (d : Int)) = (((x - y) % 18446744073709551616 : Nat) : Int) := by rw [wrap_u64]; omega
    have hn : (b : Int) < (d : Int) := by omega
    have HR := Lib.hid (res_under w 60 (.cells #[.int .u64 (a : Int), .int .u64 (b : Int)] 60) (.cells #[.int .u64 (c : Int), .int .u64 (d : Int)] 60) (.cells #[.int .u64 (IntKind.u64.wrap (IntKind.u64.wrap ((a : Int) - (c : Int)) - 1)), .int .u64 (IntKind.u64.wrap ((b : Int) - (d : Int)))] 60) _ _ (x - y) e1 e2)
    clear e1 e2 hc ha hy hb hd ex ey h hx
    go_enter Try.func39, Try.ntmps39
    go_wp2
    obtain ⟨r0, r1⟩ := HR.out
    refine bodyPost_ret (v := wd (x - y)) (by simp [results, Try.results39, go_sem, r0, r1, wd]) rfl ⟨rfl, keeps4 _ _ _ _ _⟩
  · have e1 : IntKind.u64.wrap ((a : Int) - (c : Int)) = (((x - y) / 18446744073709551616 : Nat) : Int) := by rw [wrap_u64]; omega
    have e2 : IntKind.u64.wrap ((b : Int) - (d : Int)) = (((x - y) % 18446744073709551616 : Nat) : Int) := by rw [wrap_u64]; omega
    have hn : ¬ (b : Int) < (d : Int) := by omega
    have HR := Lib.hid (res_under w 60 (.cells #[.int .u64 (a : Int), .int .u64 (b : Int)] 60) (.cells #[.int .u64 (c : Int), .int .u64 (d : Int)] 60) (.cells #[.int .u64 (IntKind.u64.wrap ((a : Int) - (c : Int))), .int .u64 (IntKind.u64.wrap ((b : Int) - (d : Int)))] 60) _ _ (x - y) e1 e2)
    clear e1 e2 hc ha hy hb hd ex ey h hx
    go_enter Try.func39, Try.ntmps39
    go_wp2
    obtain ⟨r0, r1⟩ := HR.out
    refine bodyPost_ret (v := wd (x - y)) (by simp [results, Try.results39, go_sem, r0, r1, wd]) rfl ⟨rfl, keeps4 _ _ _ _ _⟩
set_option maxRecDepth 100000 in
set_option maxHeartbeats 1000000 in
theorem above_ (x y : Nat) : Calls Try.prog 35 #[wd x, wd y] w fun e w' => e = .returned (.bool (decide (y < x))) ∧ ∀ S, Keeps S w w' := by
  obtain ⟨a, b, ha, hb, ex⟩ := wd_parts x
  obtain ⟨c, d, hy, hd, ey⟩ := wd_parts y
  rw [ex, ey]
  rcases Nat.lt_trichotomy c a with hc | hc | hc
  · have hr : decide (y < x) = true := decide_eq_true (by omega)
    rw [hr]
    have q1 : (c : Int) < (a : Int) := by omega
    clear hr hc ha hy hb hd ex ey
    go_enter Try.func35, Try.ntmps35
    go_wp2
    go_ret
    exact ⟨rfl, fun S => ((Keeps.refl S w).alloc _).alloc _⟩
  · subst hc
    have hr : decide (y < x) = decide (d < b) := decide_eq_decide.2 (by omega)
    rw [hr]
    have q1 : ((c : Int) == (c : Int)) = true := by simp
    clear hr ha hy hb hd ex ey
    go_enter Try.func35, Try.ntmps35
    go_wp2
    go_ret
    exact ⟨rfl, fun S => ((Keeps.refl S w).alloc _).alloc _⟩
  · have hr : decide (y < x) = false := decide_eq_false (by omega)
    rw [hr]
    have q1 : ¬ (c : Int) < (a : Int) := by omega
    have q2 : ((a : Int) == (c : Int)) = false := by simp; omega
    have q3 : ¬ (a : Int) = (c : Int) := by omega
    clear hr hc ha hy hb hd ex ey
    go_enter Try.func35, Try.ntmps35
    go_wp2
    go_ret
    exact ⟨rfl, fun S => ((Keeps.refl S w).alloc _).alloc _⟩
end
end Go.Proofs.Ytbiadglhfpapaaa.bk
