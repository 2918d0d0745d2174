/-
  once's tables of ints: a Get that makes the value; Made of three.
-/
import Derived.Test.YthleddflihidcaaOnTb
import Derived.Test.YthleddflihidcaaOcApp
set_option linter.unusedVariables false
namespace Go.Proofs.Ythleddflihidcaa.onI
open Go.RowKit Go.Proofs.Ythleddflihidcaa.oc Go.Proofs.Ythleddflihidcaa.mz Go.Proofs.Ythleddflihidcaa.at_ Go.Proofs.Ythleddflihidcaa.on
set_option maxRecDepth 100000 in
set_option maxHeartbeats 1000000 in
theorem known1 (i : Int) (w : World) (h : 0 ≤ i ∧ i < 1024) : Calls Try.prog 10 #[.int .i64 i] w fun e w' => e = .returned (.tuple #[.int .i64 (10 * i), .int .i64 0]) ∧ w' = w := by
  have h1 := h.1
  have h2 := h.2
  go_enter Try.func10, Try.ntmps10
  go_wp2
  try rw [Exit.noGoto_ret]
  go_ret2
  exact ⟨rfl, rfl⟩
set_option maxRecDepth 100000 in
set_option maxHeartbeats 1000000 in
theorem tmk (X tb ib : Nat) (i : Int) (w : World) (h : 0 ≤ i ∧ i < 1024) (c1 : w.cell? ⟨tb, 0, none⟩ = some (.pointer (some ⟨X, 0, none⟩))) (c2 : w.cell? ⟨ib, 0, none⟩ = some (.int .i64 i)) (c3 : w.cell? ⟨X, 1, none⟩ = some (.func (.func 10) #[] #[])) :
    Calls Try.prog 21 #[.pointer (some ⟨tb, 0, none⟩), .pointer (some ⟨ib, 0, none⟩)] w fun e w' => e = .returned (.tuple #[.int .i64 (10 * i), .int .i64 0]) ∧ ∀ S, Keeps S w w' := by
  have HK := fun n => Lib.hid (known1 i (w.drewN n) h)
  clear h
  go_enter Try.func21, Try.ntmps21
  go_wp2
  go_quiet ((go_at_call 10; exact Calls.quiet_of_same (HK _).out))
  go_wp2
  try rw [Exit.noGoto_ret]
  go_ret2
  exact ⟨rfl, fun S => Keeps.of_drew _ _⟩
theorem tmk_enter (args : Array Value) (w : World) : (callFunc 21 args).run Try.prog w = .ok (.enter 21 args) w := by
  have hb : (Try.f21).body.isSome = true := by kernel_rfl
  have hn : (Try.f21.name == "runtime.NumGoroutine") = false := by kernel_rfl
  obtain ⟨c, hc⟩ := Option.isSome_iff_exists.1 hb
  have h1 : Try.f21.name ≠ "runtime.NumGoroutine" := by simpa using hn
  simp [callFunc, Try.func21, h1, hc]
set_option maxRecDepth 100000 in
set_option maxHeartbeats 4000000 in
theorem tget_ok (X B n i : Nat) (pre post : List Value) (v0 : Value) (en num : Int) (w : World) (hi : i < n) (hn : n ≤ 1024) (hXB : X ≠ B)
    (h : Tab w X B (.func (.func 10) #[] #[]) n (pre ++ (sl 0 0 0 4294967296 en v0 num ++ post))) (hl : pre.length = i * 9) :
    Calls Try.prog 7 #[.pointer (some ⟨X, 0, none⟩), .nilIface, .int .i64 (i : Int)] w fun e w' => e = .returned (.tuple #[.int .i64 (10 * (i : Int)), .int .i64 0]) ∧
      Tab w' X B (.func (.func 10) #[] #[]) n (pre ++ (sl 2 1 0 0 2 (.int .i64 (10 * (i : Int))) num ++ post)) ∧ Keeps (· = B) w w' := by
  have hBl := h.row.lt
  have hXl := h.head.lt
  obtain ⟨w1, hw1, k1, z1, c1, c2⟩ := boxes (some ⟨X, 0, none⟩) i w
  have h1 : Tab w1 X B (.func (.func 10) #[] #[]) n (pre ++ (sl 0 0 0 4294967296 en v0 num ++ post)) := ⟨Blk.keeps h.head (k1 (fun _ => False)) (fun z => z), Blk.keeps h.row (k1 (fun _ => False)) (fun z => z)⟩
  have HN := Lib.hid (tnone_ X B n _ _ w1 h1)
  have c3 : w1.cell? ⟨X, 2, none⟩ = some (.slice (some ⟨B, 0, none⟩) n n) := by rw [h1.head.cell]; rfl
  have hd : decide ((i : Int) < 0) = false := decide_eq_false (by omega)
  have hd2 : decide ((n : Int) ≤ (i : Int)) = false := decide_eq_false (by omega)
  have hd3 : decide (n ≤ i) = false := decide_eq_false (by omega)
  have hs1 : Slot w1 B (i * 9) 50 pre post (sl 0 0 0 4294967296 en v0 num) := ⟨h1.row, hl⟩
  have hget : ∀ wz : World, (wz.heap = w1.heap ∧ Same w1 wz) → Calls Try.prog 19 #[.pointer (some ⟨B, i * 9, none⟩), .nilIface, .int .i64 (i : Int), .func (.func 21) #[] #[.pointer (some ⟨w.heap.size, 0, none⟩), .pointer (some ⟨w.heap.size + 1, 0, none⟩)]] wz fun e w' => e = .returned (.tuple #[.int .i64 (10 * (i : Int)), .int .i64 0]) ∧ Slot w' B (i * 9) 50 pre post (sl 2 1 0 0 2 (.int .i64 (10 * (i : Int))) num) ∧ Keeps (· = B) wz w' ∧ True := by
    intro wz ⟨hz, hz2⟩
    have kz : Keeps (fun _ => False) w1 wz := ⟨by rw [hz]; exact Nat.le_refl _, fun b _ _ => by rw [hz], hz2⟩
    refine (get_ok B (i * 9) 50 pre post en num (i : Int) v0 (10 * (i : Int)) 21 #[.pointer (some ⟨w.heap.size, 0, none⟩), .pointer (some ⟨w.heap.size + 1, 0, none⟩)] (fun _ => False) (fun _ => True) wz (hs1.keeps kz (fun z => z)) (fun z => z) (fun _ z => z.elim) (fun _ _ _ _ => trivial) tmk_enter
      (fun w2 k2 => (tmk X w.heap.size (w.heap.size + 1) (i : Int) w2 ⟨by omega, by omega⟩ (Keeps.cell k2 (Keeps.cell kz c1 (fun z => z)) (by omega)) (Keeps.cell k2 (Keeps.cell kz c2 (fun z => z)) (by omega)) (Keeps.cell k2 (Keeps.cell kz (show w1.cell? ⟨X, 1, none⟩ = _ by rw [h1.head.cell]; rfl) (fun z => z)) (by omega))).mono fun e w' ⟨he, hk⟩ => ⟨he, hk _, trivial⟩)).mono fun e w' ⟨he, hs, hk, _⟩ => ⟨he, hs, hk.mono (fun _ _ z => z.elim id False.elim), trivial⟩
  have HG := Lib.hid hget
  have HW := Lib.hid hw1
  have K1 : Hid (∀ S, Keeps S w w1) := Lib.hid k1
  have HH := Lib.hid h1.head
  have hmf : ∀ (fn : Fn) (first cap : Array Value) (w : World), (Instr.makeFunc fn first cap).run Try.prog w = .ok (.func fn first cap) w := fun _ _ _ _ => rfl
  have HX : Hid (X ≠ B ∧ B < w.heap.size ∧ X < w.heap.size) := Lib.hid ⟨hXB, hBl, hXl⟩
  clear hw1 k1 h h1 hs1 hget hXB hl hn hBl hXl
  go_enter Try.func7, Try.ntmps7
  go_wp2_with fail
  rw [← HW.out]
  go_wp2_with fail
  refine HN.out.mono ?_
  rintro e w' ⟨rfl, rfl⟩
  go_wp2
  go_quiet (fail)
  go_wp2
  obtain ⟨wq, hwq⟩ : ∃ wq, wq = w1.drewN nq := ⟨_, rfl⟩
  rw [← hwq]
  have kq : Keeps (fun _ => False) w1 wq := by rw [hwq]; exact Keeps.of_drew _ _
  have hq : wq.drew.heap = w1.heap ∧ Same w1 wq.drew := by rw [hwq]; exact ⟨rfl, rfl, rfl, rfl⟩
  have e1 : wq.drew.cell? ⟨w.heap.size, 0, none⟩ = some (.pointer (some ⟨X, 0, none⟩)) := Keeps.cell kq c1 (fun z => z)
  have e2 : wq.drew.cell? ⟨w.heap.size + 1, 0, none⟩ = some (.int .i64 (i : Int)) := Keeps.cell kq c2 (fun z => z)
  have e3 : wq.drew.cell? ⟨X, 2, none⟩ = some (.slice (some ⟨B, 0, none⟩) n n) := Keeps.cell kq c3 (fun z => z)
  have d1 : wq.cell? ⟨w.heap.size, 0, none⟩ = some (.pointer (some ⟨X, 0, none⟩)) := e1
  have d2 : wq.cell? ⟨w.heap.size + 1, 0, none⟩ = some (.int .i64 (i : Int)) := e2
  have d3 : wq.cell? ⟨X, 2, none⟩ = some (.slice (some ⟨B, 0, none⟩) n n) := e3
  have KQ := Lib.hid kq
  have HQ := Lib.hid hq
  clear hwq kq hq c1 c2 c3 z1
  go_region_held3 (fun w' => w'.cell? ⟨w.heap.size, 0, none⟩ = some (.pointer (some ⟨X, 0, none⟩)) ∧ w'.cell? ⟨w.heap.size + 1, 0, none⟩ = some (.int .i64 (i : Int)) ∧ w'.cell? ⟨X, 2, none⟩ = some (.slice (some ⟨B, 0, none⟩) n n)) (first | exact ⟨e1, e2, e3⟩ | exact ⟨g1, g2, g3⟩)
    ((first | (go_at_call 19; refine (HG.out wq.drew HQ.out).mono ?_; rintro e w2 ⟨rfl, s2, k2, _⟩; have g1 := Keeps.cell k2 e1 (by have := HX.out; omega); have g2 := Keeps.cell k2 e2 (by have := HX.out; omega); have g3 := Keeps.cell k2 e3 (by have := HX.out; omega); have S2 := Lib.hid s2; have K2 := Lib.hid k2; clear s2 k2)))
  go_wp2
  try rw [Exit.noGoto_ret]
  go_ret2
  have kk : Keeps (· = B) w1 wq.drew := ⟨by rw [HQ.out.1]; exact Nat.le_refl _, fun b _ _ => by rw [HQ.out.1], HQ.out.2⟩
  have k3 : Keeps (· = B) w1 w2 := kk.trans K2.out
  exact ⟨rfl, ⟨Blk.keeps HH.out k3 (by have := HX.out; omega), S2.out.blk⟩, (K1.out _).trans k3⟩
end Go.Proofs.Ythleddflihidcaa.onI
