/-
  The law FlowCompares, walked.
-/
import Derived.Test.YtdnddlmlbnachaaFwLn
set_option linter.unusedVariables false
set_option linter.unusedSimpArgs false
namespace Go.Proofs.Ytdnddlmlbnachaa.fw
open Go.RowKit Go.Proofs.Ytdnddlmlbnachaa.oc Go.Proofs.Ytdnddlmlbnachaa.mz Go.Proofs.Ytdnddlmlbnachaa.pf Go.Proofs.Ytdnddlmlbnachaa.wh Go.Proofs.Ytdnddlmlbnachaa.qk Go.Proofs.Ytdnddlmlbnachaa.bys
set_option maxRecDepth 100000 in
set_option maxHeartbeats 4000000 in
theorem walk_flowCompares (w : World) (a : Ky) (ha : a.Wf) (b : Ky) (hb : b.Wf) :
    Calls Try.prog 6 #[kv a, kv b] w fun e w' => e = .returned (.bool true) ∧ Below w.heap.size w w' := by
  obtain ⟨w1, hw1, k1, ba, bb, s1⟩ := box2 w (kvc a) (kvc b) 31 31
  have HSA := Lib.hid (key_sz ha)
  have HSB := Lib.hid (key_sz hb)
  have HFA := fun (wq : World) (hC : Old w1 wq) => Blk.range (hC.blk ba)
  have HFB := fun (wq : World) (hC : Old w1 wq) => Blk.range (hC.blk bb)
  have HP := fun w => Lib.hid (pcmp_ w a b ha hb)
  have HR := fun w => Lib.hid (rcmp_ w a b ha hb)
  have HPA := fun w => Lib.hid (pcmp_ w a a ha ha)
  rw [kcmp_self] at HPA
  have HE := fun w => Lib.hid (awake_ w)
  have HW := Lib.hid hw1
  have K1 : Hid (∀ S, Keeps S w w1) := Lib.hid k1
  unfold kv at HP HR HPA ⊢
  clear hw1 k1 ba bb s1 ha hb
  generalize kvc a = CA at *
  generalize kvc b = CB at *
  generalize kcmp a b = z at *
  go_enter Try.func6, Try.ntmps6
  go_wp2_with fail
  rw [← HW.out]
  refine q_region (by kernel_rfl) (by kernel_rfl) (Old.refl w1) ?_
  --@0
  refine q_load (by kernel_rfl) 31 _ rfl w.heap.size 0 rfl CA _ (fun wq hC => HFA wq hC) Try.underlying31 rfl HSA.out ?_
  try simp only [Act.put, Array.getInternal_eq_getElem, List.getElem_toArray, List.getElem_cons_zero, List.getElem_cons_succ, List.setIfInBounds_toArray, List.set_cons_zero, List.set_cons_succ]
  --@1
  refine q_load (by kernel_rfl) 31 _ rfl (w.heap.size + 1) 0 rfl CB _ (fun wq hC => HFB wq hC) Try.underlying31 rfl HSB.out ?_
  try simp only [Act.put, Array.getInternal_eq_getElem, List.getElem_toArray, List.getElem_cons_zero, List.getElem_cons_succ, List.setIfInBounds_toArray, List.set_cons_zero, List.set_cons_succ]
  --@2
  refine q_call (by kernel_rfl) (fun wq hC => old_call hC (HP wq).out) (fun wq => ?_) ?_
  · go_simp <;> (try (with_reducible rfl))
  try simp only [Act.put, Array.getInternal_eq_getElem, List.getElem_toArray, List.getElem_cons_zero, List.getElem_cons_succ, List.setIfInBounds_toArray, List.set_cons_zero, List.set_cons_succ]
  --@3
  refine q_load (by kernel_rfl) 31 _ rfl w.heap.size 0 rfl CA _ (fun wq hC => HFA wq hC) Try.underlying31 rfl HSA.out ?_
  try simp only [Act.put, Array.getInternal_eq_getElem, List.getElem_toArray, List.getElem_cons_zero, List.getElem_cons_succ, List.setIfInBounds_toArray, List.set_cons_zero, List.set_cons_succ]
  --@4
  refine q_load (by kernel_rfl) 31 _ rfl (w.heap.size + 1) 0 rfl CB _ (fun wq hC => HFB wq hC) Try.underlying31 rfl HSB.out ?_
  try simp only [Act.put, Array.getInternal_eq_getElem, List.getElem_toArray, List.getElem_cons_zero, List.getElem_cons_succ, List.setIfInBounds_toArray, List.set_cons_zero, List.set_cons_succ]
  --@5
  refine q_call (by kernel_rfl) (fun wq hC => old_call hC (HR wq).out) (fun wq => ?_) ?_
  · go_simp <;> (try (with_reducible rfl))
  try simp only [Act.put, Array.getInternal_eq_getElem, List.getElem_toArray, List.getElem_cons_zero, List.getElem_cons_succ, List.setIfInBounds_toArray, List.set_cons_zero, List.set_cons_succ]
  --@6
  refine q_any (by kernel_rfl) ?_ (fun wq hC => ?_) ?_
  rotate_left
  · (go_simp) <;> (try (with_reducible rfl))
  try simp only [Act.put, Array.getInternal_eq_getElem, List.getElem_toArray, List.getElem_cons_zero, List.getElem_cons_succ, List.setIfInBounds_toArray, List.set_cons_zero, List.set_cons_succ]
  --@7
  refine q_any (by kernel_rfl) ?_ (fun wq hC => ?_) ?_
  rotate_left
  · (go_simp) <;> (try (with_reducible rfl))
  try simp only [Act.put, Array.getInternal_eq_getElem, List.getElem_toArray, List.getElem_cons_zero, List.getElem_cons_succ, List.setIfInBounds_toArray, List.set_cons_zero, List.set_cons_succ]
  --@8
  refine q_load (by kernel_rfl) 31 _ rfl w.heap.size 0 rfl CA _ (fun wq hC => HFA wq hC) Try.underlying31 rfl HSA.out ?_
  try simp only [Act.put, Array.getInternal_eq_getElem, List.getElem_toArray, List.getElem_cons_zero, List.getElem_cons_succ, List.setIfInBounds_toArray, List.set_cons_zero, List.set_cons_succ]
  --@9
  refine q_load (by kernel_rfl) 31 _ rfl w.heap.size 0 rfl CA _ (fun wq hC => HFA wq hC) Try.underlying31 rfl HSA.out ?_
  try simp only [Act.put, Array.getInternal_eq_getElem, List.getElem_toArray, List.getElem_cons_zero, List.getElem_cons_succ, List.setIfInBounds_toArray, List.set_cons_zero, List.set_cons_succ]
  --@10
  refine q_call (by kernel_rfl) (fun wq hC => old_call hC (HPA wq).out) (fun wq => ?_) ?_
  · go_simp <;> (try (with_reducible rfl))
  try simp only [Act.put, Array.getInternal_eq_getElem, List.getElem_toArray, List.getElem_cons_zero, List.getElem_cons_succ, List.setIfInBounds_toArray, List.set_cons_zero, List.set_cons_succ]
  --@11
  refine q_any (by kernel_rfl) ?_ (fun wq hC => ?_) ?_
  rotate_left
  · (go_simp) <;> (try (with_reducible rfl))
  try simp only [Act.put, Array.getInternal_eq_getElem, List.getElem_toArray, List.getElem_cons_zero, List.getElem_cons_succ, List.setIfInBounds_toArray, List.set_cons_zero, List.set_cons_succ]
  --@12
  refine q_any (by kernel_rfl) ?_ (fun wq hC => ?_) ?_
  rotate_left
  · (go_simp) <;> (try (with_reducible rfl))
  try simp only [Act.put, Array.getInternal_eq_getElem, List.getElem_toArray, List.getElem_cons_zero, List.getElem_cons_succ, List.setIfInBounds_toArray, List.set_cons_zero, List.set_cons_succ]
  --@13
  refine q_any (by kernel_rfl) ?_ (fun wq hC => ?_) ?_
  rotate_left
  · (go_simp) <;> (try (with_reducible rfl))
  try simp only [Act.put, Array.getInternal_eq_getElem, List.getElem_toArray, List.getElem_cons_zero, List.getElem_cons_succ, List.setIfInBounds_toArray, List.set_cons_zero, List.set_cons_succ]
  --@14
  refine q_call (by kernel_rfl) (fun wq hC => old_call hC (HE wq).out) (fun wq => ?_) ?_
  · go_simp <;> (try (with_reducible rfl))
  try simp only [Act.put, Array.getInternal_eq_getElem, List.getElem_toArray, List.getElem_cons_zero, List.getElem_cons_succ, List.setIfInBounds_toArray, List.set_cons_zero, List.set_cons_succ]
  --@15
  refine q_any (by kernel_rfl) ?_ (fun wq hC => ?_) ?_
  rotate_left
  · (go_simp) <;> (try (with_reducible rfl))
  try simp only [Act.put, Array.getInternal_eq_getElem, List.getElem_toArray, List.getElem_cons_zero, List.getElem_cons_succ, List.setIfInBounds_toArray, List.set_cons_zero, List.set_cons_succ]
  --@16
  refine q_any (by kernel_rfl) ?_ (fun wq hC => ?_) ?_
  rotate_left
  · (go_simp) <;> (try (with_reducible rfl))
  try simp only [Act.put, Array.getInternal_eq_getElem, List.getElem_toArray, List.getElem_cons_zero, List.getElem_cons_succ, List.setIfInBounds_toArray, List.set_cons_zero, List.set_cons_succ]
  refine q_nil ?_
  intro wz kwz
  go_wp2
  try rw [Exit.noGoto_ret]
  go_ret
  exact ⟨rfl, below_of (fun S => (K1.out S).trans (kwz.all S))⟩
end Go.Proofs.Ytdnddlmlbnachaa.fw
