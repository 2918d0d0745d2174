/-
  hold at string: IndexFunc and DeleteFunc of a list of one.
-/
import Derived.Test.YtbemnfoamhbemaaGreatHoU
set_option linter.unusedVariables false
namespace Go.Proofs.YtbemnfoamhbemaaGreat.hoS
open Go.RowKit Go.Proofs.YtbemnfoamhbemaaGreat.oc Go.Proofs.YtbemnfoamhbemaaGreat.mz Go.Proofs.YtbemnfoamhbemaaGreat.at_ Go.Proofs.YtbemnfoamhbemaaGreat.gt Go.Proofs.YtbemnfoamhbemaaGreat.gw Go.Proofs.YtbemnfoamhbemaaGreat.ep Go.Proofs.YtbemnfoamhbemaaGreat.ho
set_option maxRecDepth 100000 in
set_option maxHeartbeats 1000000 in
theorem index_no (B K c e x m : Nat) (w : World) (h : One w K c e x) (hB : w.cell? ⟨B, 0, none⟩ = some (.int .u64 (m : Int))) (hx : x < 1000000) (hr : ripe x m = false) :
    Calls Tryz.prog 127 #[.slice (some ⟨K, 0, none⟩) 1 c, .func (.func 96) #[] #[.pointer (some ⟨B, 0, none⟩)]] w fun r w' => r = .returned (.int .i64 (-1)) ∧ ∀ S, Keeps S w w' := by
  have HR := Lib.hid (ripe_ B e x m w hB hx)
  rw [hr] at HR
  have c0 := h.cell0
  have c1 := h.cell1
  clear h hB hx hr
  go_enter Tryz.func127, Tryz.ntmps127
  go_wp2_with fail
  refine wp_loop_rounds 2 ?_
  rw [rounds_succ]
  go_wp2_with fail
  refine HR.out.mono ?_
  rintro r w1 ⟨rfl, k1⟩
  have K1 := Lib.hid k1
  clear k1 c0 c1
  go_wp2_with fail
  rw [rounds_succ]
  go_wp2_with fail
  try rw [Exit.noGoto_ret]
  go_ret
  exact ⟨rfl, K1.out⟩
set_option maxRecDepth 100000 in
set_option maxHeartbeats 1000000 in
theorem index_yes (B K c e x m : Nat) (w : World) (h : One w K c e x) (hB : w.cell? ⟨B, 0, none⟩ = some (.int .u64 (m : Int))) (hx : x < 1000000) (hr : ripe x m = true) :
    Calls Tryz.prog 127 #[.slice (some ⟨K, 0, none⟩) 1 c, .func (.func 96) #[] #[.pointer (some ⟨B, 0, none⟩)]] w fun r w' => r = .returned (.int .i64 0) ∧ ∀ S, Keeps S w w' := by
  have HR := Lib.hid (ripe_ B e x m w hB hx)
  rw [hr] at HR
  have c0 := h.cell0
  have c1 := h.cell1
  clear h hB hx hr
  go_enter Tryz.func127, Tryz.ntmps127
  go_wp2_with fail
  refine wp_loop_rounds 1 ?_
  rw [rounds_succ]
  go_wp2_with fail
  refine HR.out.mono ?_
  rintro r w1 ⟨rfl, k1⟩
  have K1 := Lib.hid k1
  clear k1 c0 c1
  go_wp2_with fail
  try rw [Exit.noGoto_ret]
  go_ret
  exact ⟨rfl, K1.out⟩
theorem run_clear_two (w : World) (t e ty : TypeId) (z : Value) (a b : Value) (ht : Tryz.prog.underlying t = some (.slice e)) (hv : ∀ w, (zeroValue e).run Tryz.prog w = .ok z w) (hz : z.cells = #[a, b]) (h1 : ∀ u ∈ [a, b], u.oneCell' = true) (K c : Nat)
    (hc : ∀ j, j < 2 → (w.cell? ⟨K, 0 + j, none⟩).isSome = true) (hf : ∀ j, j < 2 → w.frozen? ⟨K, 0 + j, none⟩ = false) :
    (Builtin.clear_ #[t] ty #[.slice (some ⟨K, 0, none⟩) 1 c]).run Tryz.prog w = .ok (.tuple #[]) (w.setCells K 0 [a, b]) := by
  have hzc : (Builtin.zeroCells z.cells 1).toList = [a, b] := by rw [hz]; simp [Builtin.zeroCells, Array.toList_map, Array.toList_range, List.range_succ]
  have hst := run_storeCells_cells (P := Tryz.prog) K 0 [a, b] 0 w (by simpa using hc) (by simpa using hf) h1
  simp only [Nat.add_zero] at hst
  simp [Builtin.clear_, run_underlying ht, hv, hzc, hst]
set_option maxRecDepth 100000 in
set_option maxHeartbeats 1000000 in
theorem delete_no (B K c e x m : Nat) (w : World) (h : One w K c e x) (hB : w.cell? ⟨B, 0, none⟩ = some (.int .u64 (m : Int))) (hx : x < 1000000) (hr : ripe x m = false) :
    Calls Tryz.prog 97 #[.slice (some ⟨K, 0, none⟩) 1 c, .func (.func 96) #[] #[.pointer (some ⟨B, 0, none⟩)]] w fun r w' => r = .returned (.slice (some ⟨K, 0, none⟩) 1 c) ∧ ∀ S, Keeps S w w' := by
  have HR := Lib.hid (index_no B K c e x m w h hB hx hr)
  clear h hB hx hr
  go_enter Tryz.func97, Tryz.ntmps97
  go_wp2_with fail
  refine HR.out.mono ?_
  rintro r w1 ⟨rfl, k1⟩
  have K1 := Lib.hid k1
  clear k1
  go_wp2_with fail
  try rw [Exit.noGoto_ret]
  go_ret
  exact ⟨rfl, K1.out⟩
theorem kept_zero (w : World) : (zeroValue 206).run Tryz.prog w = .ok (.agg #[.pointer none, .int .u64 0]) w := by kernel_rfl
set_option maxRecDepth 100000 in
set_option maxHeartbeats 1000000 in
theorem delete_yes (B K c e x m : Nat) (w : World) (h : One w K c e x) (hB : w.cell? ⟨B, 0, none⟩ = some (.int .u64 (m : Int))) (hx : x < 1000000) (hr : ripe x m = true) :
    Calls Tryz.prog 97 #[.slice (some ⟨K, 0, none⟩) 1 c, .func (.func 96) #[] #[.pointer (some ⟨B, 0, none⟩)]] w fun r w' => r = .returned (.slice (some ⟨K, 0, none⟩) 0 c) ∧ Keeps (· = K) w w' := by
  have HR := Lib.hid (index_yes B K c e x m w h hB hx hr)
  have HO := Lib.hid h
  have hp : (1 : Int) ≤ (c : Int) := by have := h.pos; omega
  clear h hB hx hr
  go_enter Tryz.func97, Tryz.ntmps97
  go_wp2_with fail
  refine HR.out.mono ?_
  rintro r w1 ⟨rfl, k1⟩
  have o1 := HO.out.keeps (k1 (fun _ => False)) (fun z => z)
  have hcl : ∀ ty, (Builtin.clear_ #[115] ty #[.slice (some ⟨K, 0, none⟩) 1 c]).run Tryz.prog w1 = .ok (.tuple #[]) (w1.setCells K 0 [.pointer none, .int .u64 0]) := fun ty => run_clear_two w1 _ 206 ty _ _ _ Tryz.underlying115 kept_zero rfl (by intro u hu; simp only [List.mem_cons, List.not_mem_nil, or_false] at hu; rcases hu with rfl | rfl <;> rfl) K c (by
    intro j hj
    rcases j with _ | _ | j
    · rw [o1.cell0]; rfl
    · rw [o1.cell1]; rfl
    · omega) (fun j _ => o1.frozen _)
  have k2 : Keeps (· = K) w1 (w1.setCells K 0 [.pointer none, .int .u64 0]) := by
    simp only [World.setCells]
    exact (Keeps.here _).trans (Keeps.here _)
  obtain ⟨w2, hw2⟩ : ∃ w2, w2 = w1.setCells K 0 [.pointer none, .int .u64 0] := ⟨_, rfl⟩
  rw [← hw2] at hcl k2
  have K1 := Lib.hid ((k1 _).trans k2)
  clear k1 k2 hw2 o1
  go_wp2_with fail
  refine wp_loop_rounds 1 ?_
  rw [rounds_succ]
  go_wp2_with fail
  try rw [Exit.noGoto_ret]
  go_ret
  exact ⟨rfl, K1.out⟩
end Go.Proofs.YtbemnfoamhbemaaGreat.hoS
