/-
  patchbaylaw04's works: true, and nothing that was there has turned.
-/
import Derived.Test.YthleddflihidcabGreatOnIO
set_option linter.unusedVariables false
namespace Go.Proofs.YthleddflihidcabGreat.onI
open Go.RowKit Go.Proofs.YthleddflihidcabGreat.oc Go.Proofs.YthleddflihidcabGreat.mz Go.Proofs.YthleddflihidcabGreat.at_ Go.Proofs.YthleddflihidcabGreat.on
theorem enter_of {f : FuncId} {fn : Func} (hf : Tryz.prog.funcs[f]? = some fn) (hb : fn.body.isSome = true) (hn : (fn.name == "runtime.NumGoroutine") = false) (args : Array Value) (w : World) : (callFunc f args).run Tryz.prog w = .ok (.enter f args) w := by
  obtain ⟨c, hc⟩ := Option.isSome_iff_exists.1 hb
  have h1 : fn.name ≠ "runtime.NumGoroutine" := by simpa using hn
  simp [callFunc, hf, h1, hc]
set_option maxRecDepth 100000 in
set_option maxHeartbeats 1000000 in
theorem works1 (N : Nat) (w : World) (h : w.cell? ⟨N, 0, none⟩ = some (.int .i64 0)) (hf : w.frozen? ⟨N, 0, none⟩ = false) :
    Calls Tryz.prog 32 #[.pointer (some ⟨N, 0, none⟩)] w fun e w' => e = .returned (.tuple #[.int .i64 7, .int .i64 0]) ∧ w' = w.setCell ⟨N, 0, none⟩ (.int .i64 1) := by
  go_enter Tryz.func32, Tryz.ntmps32
  go_wp2
  try rw [Exit.noGoto_ret]
  go_ret2
  exact ⟨rfl, rfl⟩
set_option maxRecDepth 100000 in
set_option maxHeartbeats 1000000 in
theorem works2 (w : World) : Calls Tryz.prog 34 #[] w fun e w' => e = .returned (.tuple #[.int .i64 9, .int .i64 4]) ∧ w' = w := by
  go_enter Tryz.func34, Tryz.ntmps34
  go_wp2
  try rw [Exit.noGoto_ret]
  go_ret2
  exact ⟨rfl, rfl⟩
theorem frozen_keeps {S : Nat → Prop} {w w' : World} (k : Keeps S w w') {b i : Nat} (hb : b < w.heap.size) (h : w.frozen? ⟨b, i, none⟩ = false) (hs : ¬ S b) : w'.frozen? ⟨b, i, none⟩ = false := by
  have := k.block b hb hs
  simp only [World.frozen?] at h ⊢
  rw [this]; exact h
set_option maxRecDepth 100000 in
set_option maxHeartbeats 4000000 in
theorem works_any (w : World) : Calls Tryz.prog 20 #[] w fun e w' => e = .returned (.bool true) ∧ ∀ S, Keeps S w w' := by
  have hmf : ∀ (fn : Fn) (first cap : Array Value) (w : World), (Instr.makeFunc fn first cap).run Tryz.prog w = .ok (.func fn first cap) w := fun _ _ _ _ => rfl
  obtain ⟨w1, hw1⟩ : ∃ w1, w1 = w.alloc (.cells #[.int .i64 0] 3) := ⟨_, rfl⟩
  have b1 : Blk w1 w.heap.size 3 [.int .i64 0] := by rw [hw1]; exact Blk.new w _ _
  have k1 : ∀ S, Keeps S w w1 := fun S => by rw [hw1]; exact (Keeps.refl _ w).alloc _
  have HW := Lib.hid hw1
  have B1 := Lib.hid b1
  have K1 : Hid (∀ S, Keeps S w w1) := Lib.hid k1
  clear hw1 b1 k1
  go_enter Tryz.func20, Tryz.ntmps20
  go_wp2_with fail
  rw [← HW.out]
  refine (new_ _ _ w1).mono ?_
  rintro e w2 ⟨rfl, o2, k2⟩
  have z1 : w.heap.size < w1.heap.size := B1.out.lt
  have hget := oget_ok w1.heap.size 0 0 (.int .i64 0) 7 32 #[.pointer (some ⟨w.heap.size, 0, none⟩)] (· = w.heap.size) (fun u => u.cell? ⟨w.heap.size, 0, none⟩ = some (.int .i64 1)) w2 o2 (by omega) (fun k hk => by have := (k2 (fun _ => False)).size; omega)
    (fun u1 u2 hq kk => Keeps.cell kk hq (by omega)) (enter_of Tryz.func32 (by kernel_rfl) (by kernel_rfl))
    (fun u ku => by
      have b2 : Blk w2 w.heap.size 3 [.int .i64 0] := Blk.keeps B1.out (k2 (fun _ => False)) (fun z => z)
      have b3 : Blk u w.heap.size 3 [.int .i64 0] := Blk.keeps b2 ku (by omega)
      refine (works1 w.heap.size u (by rw [b3.cell]; rfl) (b3.frozen 0)).mono ?_
      rintro e u' ⟨rfl, rfl⟩
      refine ⟨rfl, Keeps.here _, ?_⟩
      rw [(b3.put 0 (.int .i64 1)).cell]; rfl)
  have HG := Lib.hid hget
  have Z1 : Hid (w.heap.size < w1.heap.size) := Lib.hid z1
  have K2 : Hid (∀ S, Keeps S w1 w2) := Lib.hid k2
  clear hget o2 k2 z1
  go_wp2_with fail
  refine HG.out.mono ?_
  rintro e w3 ⟨rfl, o3, k3, q3⟩
  have O3 := Lib.hid o3
  have K3 := Lib.hid k3
  have HG2 := Lib.hid (oget2_ok w1.heap.size 2 0 0 0 (.int .i64 0) 7 _ _ w3 o3)
  have Q3 := Lib.hid q3
  clear o3 k3 q3
  go_wp2_with fail
  refine HG2.out.mono ?_
  rintro e w4 ⟨rfl, k4⟩
  have q4 := Keeps.cell (k4 (fun _ => False)) Q3.out (fun z => z)
  have Q4 := Lib.hid q4
  have K4 : Hid (∀ S, Keeps S w3 w4) := Lib.hid k4
  clear k4 q4
  go_wp2_with fail
  refine (new_ _ _ w4).mono ?_
  rintro e w5 ⟨rfl, o5, k5⟩
  have hlt : w.heap.size < w4.heap.size := by have := Z1.out; have := (K2.out (fun _ => False)).size; have := K3.out.size; have := (K4.out (fun _ => False)).size; omega
  have hget := oget_err w4.heap.size 0 0 (.int .i64 0) 9 4 34 #[] (fun _ => False) (fun _ => True) w5 o5 (fun z => z) (fun _ z => z.elim) (fun _ _ _ _ => trivial) rfl (enter_of Tryz.func34 (by kernel_rfl) (by kernel_rfl))
    (fun u ku => (works2 u).mono fun e u' ⟨he, hu⟩ => ⟨he, by rw [hu]; exact Keeps.refl _ _, trivial⟩)
  have HG3 := Lib.hid hget
  have q5 := Keeps.cell (k5 (fun _ => False)) Q4.out (fun z => z)
  have Q5 := Lib.hid q5
  have K5 : Hid (∀ S, Keeps S w4 w5) := Lib.hid k5
  have HLT : Hid (w.heap.size < w4.heap.size) := Lib.hid hlt
  clear hget k5 o5 q5 hlt
  go_wp2_with fail
  refine HG3.out.mono ?_
  rintro e w6 ⟨rfl, o6, k6, _⟩
  have q6 : w6.cell? ⟨w.heap.size, 0, none⟩ = some (.int .i64 1) := Keeps.cell k6 Q5.out (fun z => by have := HLT.out; rcases z with z | z; omega; exact z)
  have K6 := Lib.hid k6
  clear k6 o6
  go_wp2
  go_ret
  refine ⟨rfl, fun S => ?_⟩
  have a1 := (K1.out S).size
  have a2 := (K2.out S).size
  have a3 := K3.out.size
  have a4 := (K4.out S).size
  have a5 := (K5.out S).size
  have a6 := K6.out.size
  have a7 := HLT.out
  have a8 := Z1.out
  refine ⟨by omega, fun b hb hs => ?_, ((((((K1.out S).same.trans (K2.out S).same).trans K3.out.same).trans (K4.out S).same).trans (K5.out S).same).trans K6.out.same)⟩
  rw [K6.out.block b (by omega) (fun z => by rcases z with z | z; omega; exact z), (K5.out S).block b (by omega) hs, (K4.out S).block b (by omega) hs, K3.out.block b (by omega) (fun z => by rcases z with z | z <;> omega), (K2.out S).block b (by omega) hs, (K1.out S).block b hb hs]
end Go.Proofs.YthleddflihidcabGreat.onI
