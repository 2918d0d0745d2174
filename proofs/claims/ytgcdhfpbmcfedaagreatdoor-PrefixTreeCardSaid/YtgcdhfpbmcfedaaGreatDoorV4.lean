/-
  prefix: Check, Has, Covers. prefix: Of. prefix: Has, Covers. prefix: Compare. prefix: Compare. prefix: Halves. Lists of prefixes; what add answers, plainly.
-/
import Derived.Lib.Bytealg
import Derived.Test.YtgcdhfpbmcfedaaGreatDoorV3
section
set_option linter.unusedVariables false
set_option linter.unusedSimpArgs false
namespace Go.Proofs.YtgcdhfpbmcfedaaGreatDoor.pf
open Go.RowKit Go.Proofs.YtgcdhfpbmcfedaaGreatDoor.oc Go.Proofs.YtgcdhfpbmcfedaaGreatDoor.mz Go.Proofs.YtgcdhfpbmcfedaaGreatDoor.wh Go.Proofs.YtgcdhfpbmcfedaaGreatDoor.qk
theorem okP_cut {p : Px} (hp : p.a.Wf) (k : Nat) (hk : p.bits = (k : Int)) (hw : k ≤ wid p.a) : (p.a.B = cut p.a.B k) ↔ okP p := by
  have hw' := (wid_le p.a).1
  rw [← clr_cut]
  constructor
  · intro h
    have e : ∀ i, i < 128 → k ≤ i → bit p.a i = false := fun i hi h1 => by
      have e : bit p.a i = bit (clr p.a k) i := by rw [← Ad.eq_of (a := p.a) (b := clr p.a k) rfl h]
      rw [e, clr_bit hp _ _ hi, decide_eq_false (by omega)]; rfl
    exact ⟨(okA_bits hp).2 fun i h1 h2 => e i h2 (by omega), ⟨by omega, by omega⟩, fun i h1 h2 => e i (by omega) (by omega)⟩
  · intro h
    have e : p.a = clr p.a k := Ad.ext_bit hp (clr_wf hp _) rfl fun i hi => by
      rw [clr_bit hp _ _ hi]
      by_cases c : i < k
      · rw [decide_eq_true c]; rfl
      · rw [decide_eq_false c, okP_zero hp h i (by omega) hi]; rfl
    exact congrArg Ad.B e
/-- what a prefix in a block of its own says -/
theorem px_facts {w1 : World} {b : Nat} {p : Px} (hp : p.a.Wf) (b1 : Blk w1 b 28 (pxc p)) (w' : World) (h : Old w1 w') : w'.rangeAt b 0 (pxc p) ∧ w'.rangeAt b 0 (adc p.a) ∧ w'.rangeAt b 1 (b8s p.a.B) ∧ w'.cell? ⟨b, 17, none⟩ = some (.int .i64 p.bits) ∧ w'.cell? ⟨b, 0, none⟩ = some (.bool p.a.v6) :=
  ⟨Blk.range (h.blk b1), px_addr hp (h.blk b1), px_bytes hp (h.blk b1), px_bits hp (h.blk b1), px_v6 (h.blk b1)⟩
theorem ad_facts {w1 : World} {b : Nat} {a : Ad} (b1 : Blk w1 b 24 (adc a)) (w' : World) (h : Old w1 w') : w'.rangeAt b 0 (adc a) ∧ w'.rangeAt b 1 (b8s a.B) ∧ w'.cell? ⟨b, 0, none⟩ = some (.bool a.v6) :=
  ⟨Blk.range (h.blk b1), ad_bytes (h.blk b1), ad_v6 (h.blk b1)⟩
theorem ad_sz {a : Ad} (ha : a.Wf) : (Tryz.prog.info? 24).map (·.size) = some (adc a).length := by rw [adc_len ha]; exact addr_info
theorem px_sz {p : Px} (hp : p.a.Wf) : (Tryz.prog.info? 28).map (·.size) = some (pxc p).length := by rw [pxc_len hp]; exact prefix_info
section
variable (w : World)
set_option maxRecDepth 100000 in
set_option maxHeartbeats 4000000 in
theorem pcheck_neg (p : Px) (hp : p.a.Wf) (hb : p.bits < 0) : Calls Tryz.prog 21 #[pv p] w fun e w' => e = .returned (.int .i64 (errP p)) ∧ ∀ S, Keeps S w w' := by
  obtain ⟨w1, hw1, k1, b1⟩ := enter_blk w (pxc p).toArray 28
  have HCW := fun w => Lib.hid (pwidth_ w p.a)
  have HSA := Lib.hid (ad_sz hp)
  have HSB := Lib.hid (b8_info hp.len)
  have HF := px_facts hp b1
  obtain ⟨E, hE⟩ : ∃ E, E = errP p := ⟨_, rfl⟩

  have HE : Hid (E = 151) := Lib.hid (hE.trans (errP_no (fun z => by have := z.2.1; omega)))
  generalize p.bits = bits at *
  rw [← hE]
  have HW := Lib.hid hw1
  have K1 : Hid (∀ S, Keeps S w w1) := Lib.hid k1
  unfold av at HCW
  unfold pv
  clear hE hw1 k1 b1 hp
  generalize b8s p.a.B = D at *
  generalize adc p.a = C at *
  generalize wid p.a = W at *
  generalize pxc p = CP at *
  go_enter Tryz.func21, Tryz.ntmps21
  go_wp2_with fail
  rw [← HW.out]
  refine q_region (by kernel_rfl) (by kernel_rfl) (Old.refl w1) ?_
  --@0
  refine q_any (by kernel_rfl) ?_ (fun wq hC => ?_) ?_
  rotate_left
  · (go_simp) <;> (try (with_reducible rfl))
  try simp only [Act.put, Array.getInternal_eq_getElem, List.getElem_toArray, List.getElem_cons_zero, List.getElem_cons_succ, List.setIfInBounds_toArray, List.set_cons_zero, List.set_cons_succ]
  --@1
  refine q_any (by kernel_rfl) ?_ (fun wq hC => ?_) ?_
  rotate_left
  · (have hF := (HF wq hC); (try dsimp only at hF); go_simp) <;> (try (with_reducible rfl))
  try simp only [Act.put, Array.getInternal_eq_getElem, List.getElem_toArray, List.getElem_cons_zero, List.getElem_cons_succ, List.setIfInBounds_toArray, List.set_cons_zero, List.set_cons_succ]
  --@2
  refine q_any (by kernel_rfl) ?_ (fun wq hC => ?_) ?_
  rotate_left
  · (go_simp) <;> (try (with_reducible rfl))
  try simp only [Act.put, Array.getInternal_eq_getElem, List.getElem_toArray, List.getElem_cons_zero, List.getElem_cons_succ, List.setIfInBounds_toArray, List.set_cons_zero, List.set_cons_succ]
  --@3
  refine q_any (by kernel_rfl) ?_ (fun wq hC => ?_) ?_
  rotate_left
  · (go_simp) <;> (try (with_reducible rfl))
  try simp only [Act.put, Array.getInternal_eq_getElem, List.getElem_toArray, List.getElem_cons_zero, List.getElem_cons_succ, List.setIfInBounds_toArray, List.set_cons_zero, List.set_cons_succ]
  --@4
  refine q_skip (by kernel_rfl) ?_
  try simp only [Act.put, Array.getInternal_eq_getElem, List.getElem_toArray, List.getElem_cons_zero, List.getElem_cons_succ, List.setIfInBounds_toArray, List.set_cons_zero, List.set_cons_succ]
  --@5
  refine q_skip (by kernel_rfl) ?_
  try simp only [Act.put, Array.getInternal_eq_getElem, List.getElem_toArray, List.getElem_cons_zero, List.getElem_cons_succ, List.setIfInBounds_toArray, List.set_cons_zero, List.set_cons_succ]
  --@6
  refine q_skip (by kernel_rfl) ?_
  try simp only [Act.put, Array.getInternal_eq_getElem, List.getElem_toArray, List.getElem_cons_zero, List.getElem_cons_succ, List.setIfInBounds_toArray, List.set_cons_zero, List.set_cons_succ]
  --@7
  refine q_skip (by kernel_rfl) ?_
  try simp only [Act.put, Array.getInternal_eq_getElem, List.getElem_toArray, List.getElem_cons_zero, List.getElem_cons_succ, List.setIfInBounds_toArray, List.set_cons_zero, List.set_cons_succ]
  --@8
  refine q_skip (by kernel_rfl) ?_
  try simp only [Act.put, Array.getInternal_eq_getElem, List.getElem_toArray, List.getElem_cons_zero, List.getElem_cons_succ, List.setIfInBounds_toArray, List.set_cons_zero, List.set_cons_succ]
  --@9
  refine q_skip (by kernel_rfl) ?_
  try simp only [Act.put, Array.getInternal_eq_getElem, List.getElem_toArray, List.getElem_cons_zero, List.getElem_cons_succ, List.setIfInBounds_toArray, List.set_cons_zero, List.set_cons_succ]
  --@10
  refine q_any (by kernel_rfl) ?_ (fun wq hC => ?_) ?_
  rotate_left
  · (go_simp) <;> (try (with_reducible rfl))
  try simp only [Act.put, Array.getInternal_eq_getElem, List.getElem_toArray, List.getElem_cons_zero, List.getElem_cons_succ, List.setIfInBounds_toArray, List.set_cons_zero, List.set_cons_succ]
  --@11
  refine q_any (by kernel_rfl) ?_ (fun wq hC => ?_) ?_
  rotate_left
  · (go_simp) <;> (try (with_reducible rfl))
  try simp only [Act.put, Array.getInternal_eq_getElem, List.getElem_toArray, List.getElem_cons_zero, List.getElem_cons_succ, List.setIfInBounds_toArray, List.set_cons_zero, List.set_cons_succ]
  --@12
  refine q_skip (by kernel_rfl) ?_
  try simp only [Act.put, Array.getInternal_eq_getElem, List.getElem_toArray, List.getElem_cons_zero, List.getElem_cons_succ, List.setIfInBounds_toArray, List.set_cons_zero, List.set_cons_succ]
  --@13
  refine q_skip (by kernel_rfl) ?_
  try simp only [Act.put, Array.getInternal_eq_getElem, List.getElem_toArray, List.getElem_cons_zero, List.getElem_cons_succ, List.setIfInBounds_toArray, List.set_cons_zero, List.set_cons_succ]
  --@14
  refine q_skip (by kernel_rfl) ?_
  try simp only [Act.put, Array.getInternal_eq_getElem, List.getElem_toArray, List.getElem_cons_zero, List.getElem_cons_succ, List.setIfInBounds_toArray, List.set_cons_zero, List.set_cons_succ]
  --@15
  refine q_skip (by kernel_rfl) ?_
  try simp only [Act.put, Array.getInternal_eq_getElem, List.getElem_toArray, List.getElem_cons_zero, List.getElem_cons_succ, List.setIfInBounds_toArray, List.set_cons_zero, List.set_cons_succ]
  --@16
  refine q_skip (by kernel_rfl) ?_
  try simp only [Act.put, Array.getInternal_eq_getElem, List.getElem_toArray, List.getElem_cons_zero, List.getElem_cons_succ, List.setIfInBounds_toArray, List.set_cons_zero, List.set_cons_succ]
  --@17
  refine q_skip (by kernel_rfl) ?_
  try simp only [Act.put, Array.getInternal_eq_getElem, List.getElem_toArray, List.getElem_cons_zero, List.getElem_cons_succ, List.setIfInBounds_toArray, List.set_cons_zero, List.set_cons_succ]
  --@18
  refine q_skip (by kernel_rfl) ?_
  try simp only [Act.put, Array.getInternal_eq_getElem, List.getElem_toArray, List.getElem_cons_zero, List.getElem_cons_succ, List.setIfInBounds_toArray, List.set_cons_zero, List.set_cons_succ]
  --@19
  refine q_skip (by kernel_rfl) ?_
  try simp only [Act.put, Array.getInternal_eq_getElem, List.getElem_toArray, List.getElem_cons_zero, List.getElem_cons_succ, List.setIfInBounds_toArray, List.set_cons_zero, List.set_cons_succ]
  --@20
  refine q_skip (by kernel_rfl) ?_
  try simp only [Act.put, Array.getInternal_eq_getElem, List.getElem_toArray, List.getElem_cons_zero, List.getElem_cons_succ, List.setIfInBounds_toArray, List.set_cons_zero, List.set_cons_succ]
  --@21
  refine q_skip (by kernel_rfl) ?_
  try simp only [Act.put, Array.getInternal_eq_getElem, List.getElem_toArray, List.getElem_cons_zero, List.getElem_cons_succ, List.setIfInBounds_toArray, List.set_cons_zero, List.set_cons_succ]
  --@22
  refine q_any (by kernel_rfl) ?_ (fun wq hC => ?_) ?_
  rotate_left
  · (go_simp) <;> (try (with_reducible rfl))
  try simp only [Act.put, Array.getInternal_eq_getElem, List.getElem_toArray, List.getElem_cons_zero, List.getElem_cons_succ, List.setIfInBounds_toArray, List.set_cons_zero, List.set_cons_succ]
  refine q_nil ?_
  intro wz kwz
  clear HCW HF HSA HSB
  have KZ : Hid (∀ S, Keeps S w wz) := Lib.hid (fun S => (K1.out S).trans (kwz.all S))
  clear kwz
  go_wp2
  try rw [Exit.noGoto_ret]
  go_ret
  exact ⟨by rw [HE.out]; rfl, KZ.out⟩
set_option maxRecDepth 100000 in
set_option maxHeartbeats 4000000 in
theorem pcheck_over (p : Px) (hp : p.a.Wf) (hb : ¬ p.bits < 0) (hc : (wid p.a : Int) < p.bits) : Calls Tryz.prog 21 #[pv p] w fun e w' => e = .returned (.int .i64 (errP p)) ∧ ∀ S, Keeps S w w' := by
  obtain ⟨w1, hw1, k1, b1⟩ := enter_blk w (pxc p).toArray 28
  have HCW := fun w => Lib.hid (pwidth_ w p.a)
  have HSA := Lib.hid (ad_sz hp)
  have HSB := Lib.hid (b8_info hp.len)
  have HF := px_facts hp b1
  obtain ⟨E, hE⟩ : ∃ E, E = errP p := ⟨_, rfl⟩

  have HE : Hid (E = 151) := Lib.hid (hE.trans (errP_no (fun z => by have := z.2.1; omega)))
  generalize p.bits = bits at *
  have hbd : decide (bits < 0) = false := decide_eq_false hb
  rw [← hE]
  have HW := Lib.hid hw1
  have K1 : Hid (∀ S, Keeps S w w1) := Lib.hid k1
  unfold av at HCW
  unfold pv
  clear hE hw1 k1 b1 hp
  generalize b8s p.a.B = D at *
  generalize adc p.a = C at *
  generalize wid p.a = W at *
  generalize pxc p = CP at *
  go_enter Tryz.func21, Tryz.ntmps21
  go_wp2_with fail
  rw [← HW.out]
  refine q_region (by kernel_rfl) (by kernel_rfl) (Old.refl w1) ?_
  --@0
  refine q_any (by kernel_rfl) ?_ (fun wq hC => ?_) ?_
  rotate_left
  · (go_simp) <;> (try (with_reducible rfl))
  try simp only [Act.put, Array.getInternal_eq_getElem, List.getElem_toArray, List.getElem_cons_zero, List.getElem_cons_succ, List.setIfInBounds_toArray, List.set_cons_zero, List.set_cons_succ]
  --@1
  refine q_any (by kernel_rfl) ?_ (fun wq hC => ?_) ?_
  rotate_left
  · (have hF := (HF wq hC); (try dsimp only at hF); go_simp) <;> (try (with_reducible rfl))
  try simp only [Act.put, Array.getInternal_eq_getElem, List.getElem_toArray, List.getElem_cons_zero, List.getElem_cons_succ, List.setIfInBounds_toArray, List.set_cons_zero, List.set_cons_succ]
  --@2
  refine q_any (by kernel_rfl) ?_ (fun wq hC => ?_) ?_
  rotate_left
  · (go_simp) <;> (try (with_reducible rfl))
  try simp only [Act.put, Array.getInternal_eq_getElem, List.getElem_toArray, List.getElem_cons_zero, List.getElem_cons_succ, List.setIfInBounds_toArray, List.set_cons_zero, List.set_cons_succ]
  --@3
  refine q_any (by kernel_rfl) ?_ (fun wq hC => ?_) ?_
  rotate_left
  · (go_simp) <;> (try (with_reducible rfl))
  try simp only [Act.put, Array.getInternal_eq_getElem, List.getElem_toArray, List.getElem_cons_zero, List.getElem_cons_succ, List.setIfInBounds_toArray, List.set_cons_zero, List.set_cons_succ]
  --@4
  refine q_any (by kernel_rfl) ?_ (fun wq hC => ?_) ?_
  rotate_left
  · (go_simp) <;> (try (with_reducible rfl))
  try simp only [Act.put, Array.getInternal_eq_getElem, List.getElem_toArray, List.getElem_cons_zero, List.getElem_cons_succ, List.setIfInBounds_toArray, List.set_cons_zero, List.set_cons_succ]
  --@5
  refine q_any (by kernel_rfl) ?_ (fun wq hC => ?_) ?_
  rotate_left
  · (have hF := (HF wq hC); (try dsimp only at hF); go_simp) <;> (try (with_reducible rfl))
  try simp only [Act.put, Array.getInternal_eq_getElem, List.getElem_toArray, List.getElem_cons_zero, List.getElem_cons_succ, List.setIfInBounds_toArray, List.set_cons_zero, List.set_cons_succ]
  --@6
  refine q_any (by kernel_rfl) ?_ (fun wq hC => ?_) ?_
  rotate_left
  · (go_simp) <;> (try (with_reducible rfl))
  try simp only [Act.put, Array.getInternal_eq_getElem, List.getElem_toArray, List.getElem_cons_zero, List.getElem_cons_succ, List.setIfInBounds_toArray, List.set_cons_zero, List.set_cons_succ]
  --@7
  refine q_load (by kernel_rfl) 24 _ rfl w.heap.size 0 rfl C _ (fun wq hC => (HF wq hC).2.1) Tryz.underlying24 rfl HSA.out ?_
  try simp only [Act.put, Array.getInternal_eq_getElem, List.getElem_toArray, List.getElem_cons_zero, List.getElem_cons_succ, List.setIfInBounds_toArray, List.set_cons_zero, List.set_cons_succ]
  --@8
  refine q_call (by kernel_rfl) (fun wq hC => old_call hC (HCW wq).out) (fun wq => ?_) ?_
  · go_simp <;> (try (with_reducible rfl))
  try simp only [Act.put, Array.getInternal_eq_getElem, List.getElem_toArray, List.getElem_cons_zero, List.getElem_cons_succ, List.setIfInBounds_toArray, List.set_cons_zero, List.set_cons_succ]
  --@9
  refine q_any (by kernel_rfl) ?_ (fun wq hC => ?_) ?_
  rotate_left
  · (go_simp) <;> (try (with_reducible rfl))
  try simp only [Act.put, Array.getInternal_eq_getElem, List.getElem_toArray, List.getElem_cons_zero, List.getElem_cons_succ, List.setIfInBounds_toArray, List.set_cons_zero, List.set_cons_succ]
  --@10
  refine q_any (by kernel_rfl) ?_ (fun wq hC => ?_) ?_
  rotate_left
  · (go_simp) <;> (try (with_reducible rfl))
  try simp only [Act.put, Array.getInternal_eq_getElem, List.getElem_toArray, List.getElem_cons_zero, List.getElem_cons_succ, List.setIfInBounds_toArray, List.set_cons_zero, List.set_cons_succ]
  --@11
  refine q_any (by kernel_rfl) ?_ (fun wq hC => ?_) ?_
  rotate_left
  · (go_simp) <;> (try (with_reducible rfl))
  try simp only [Act.put, Array.getInternal_eq_getElem, List.getElem_toArray, List.getElem_cons_zero, List.getElem_cons_succ, List.setIfInBounds_toArray, List.set_cons_zero, List.set_cons_succ]
  --@12
  refine q_skip (by kernel_rfl) ?_
  try simp only [Act.put, Array.getInternal_eq_getElem, List.getElem_toArray, List.getElem_cons_zero, List.getElem_cons_succ, List.setIfInBounds_toArray, List.set_cons_zero, List.set_cons_succ]
  --@13
  refine q_skip (by kernel_rfl) ?_
  try simp only [Act.put, Array.getInternal_eq_getElem, List.getElem_toArray, List.getElem_cons_zero, List.getElem_cons_succ, List.setIfInBounds_toArray, List.set_cons_zero, List.set_cons_succ]
  --@14
  refine q_skip (by kernel_rfl) ?_
  try simp only [Act.put, Array.getInternal_eq_getElem, List.getElem_toArray, List.getElem_cons_zero, List.getElem_cons_succ, List.setIfInBounds_toArray, List.set_cons_zero, List.set_cons_succ]
  --@15
  refine q_skip (by kernel_rfl) ?_
  try simp only [Act.put, Array.getInternal_eq_getElem, List.getElem_toArray, List.getElem_cons_zero, List.getElem_cons_succ, List.setIfInBounds_toArray, List.set_cons_zero, List.set_cons_succ]
  --@16
  refine q_skip (by kernel_rfl) ?_
  try simp only [Act.put, Array.getInternal_eq_getElem, List.getElem_toArray, List.getElem_cons_zero, List.getElem_cons_succ, List.setIfInBounds_toArray, List.set_cons_zero, List.set_cons_succ]
  --@17
  refine q_skip (by kernel_rfl) ?_
  try simp only [Act.put, Array.getInternal_eq_getElem, List.getElem_toArray, List.getElem_cons_zero, List.getElem_cons_succ, List.setIfInBounds_toArray, List.set_cons_zero, List.set_cons_succ]
  --@18
  refine q_skip (by kernel_rfl) ?_
  try simp only [Act.put, Array.getInternal_eq_getElem, List.getElem_toArray, List.getElem_cons_zero, List.getElem_cons_succ, List.setIfInBounds_toArray, List.set_cons_zero, List.set_cons_succ]
  --@19
  refine q_skip (by kernel_rfl) ?_
  try simp only [Act.put, Array.getInternal_eq_getElem, List.getElem_toArray, List.getElem_cons_zero, List.getElem_cons_succ, List.setIfInBounds_toArray, List.set_cons_zero, List.set_cons_succ]
  --@20
  refine q_skip (by kernel_rfl) ?_
  try simp only [Act.put, Array.getInternal_eq_getElem, List.getElem_toArray, List.getElem_cons_zero, List.getElem_cons_succ, List.setIfInBounds_toArray, List.set_cons_zero, List.set_cons_succ]
  --@21
  refine q_skip (by kernel_rfl) ?_
  try simp only [Act.put, Array.getInternal_eq_getElem, List.getElem_toArray, List.getElem_cons_zero, List.getElem_cons_succ, List.setIfInBounds_toArray, List.set_cons_zero, List.set_cons_succ]
  --@22
  refine q_any (by kernel_rfl) ?_ (fun wq hC => ?_) ?_
  rotate_left
  · (go_simp) <;> (try (with_reducible rfl))
  try simp only [Act.put, Array.getInternal_eq_getElem, List.getElem_toArray, List.getElem_cons_zero, List.getElem_cons_succ, List.setIfInBounds_toArray, List.set_cons_zero, List.set_cons_succ]
  refine q_nil ?_
  intro wz kwz
  clear HCW HF HSA HSB
  have KZ : Hid (∀ S, Keeps S w wz) := Lib.hid (fun S => (K1.out S).trans (kwz.all S))
  clear kwz
  go_wp2
  try rw [Exit.noGoto_ret]
  go_ret
  exact ⟨by rw [HE.out]; rfl, KZ.out⟩
set_option maxRecDepth 100000 in
set_option maxHeartbeats 4000000 in
theorem pcheck_in (p : Px) (hp : p.a.Wf) (k : Nat) (hk : p.bits = (k : Int)) (hc : k ≤ wid p.a) : Calls Tryz.prog 21 #[pv p] w fun e w' => e = .returned (.int .i64 (errP p)) ∧ ∀ S, Keeps S w w' := by
  obtain ⟨w1, hw1, k1, b1⟩ := enter_blk w (pxc p).toArray 28
  have HCW := fun w => Lib.hid (pwidth_ w p.a)
  have HSA := Lib.hid (ad_sz hp)
  have HSB := Lib.hid (b8_info hp.len)
  have HF := px_facts hp b1
  obtain ⟨E, hE⟩ : ∃ E, E = errP p := ⟨_, rfl⟩

  have HCF := fun w => Lib.hid (first_ w p.a.B k hp.len hp.sm (Nat.le_trans hc (wid_le p.a).1))
  have HN := fun w => Lib.hid (b8_equ p.a.B (cut p.a.B k) hp.len ((cut_len _ _).trans hp.len) w)
  obtain ⟨r, hr⟩ : ∃ r : Bool, r = (p.a.B == cut p.a.B k) := ⟨_, rfl⟩
  have HE : Hid (E = if r = true then 0 else 151) := Lib.hid (by
    have hq := okP_cut hp k hk hc
    rw [hr, hE]
    by_cases h : p.a.B = cut p.a.B k
    · rw [errP_ok (hq.1 h), if_pos (by simpa using h)]
    · rw [errP_no (fun z => h (hq.2 z)), if_neg (by simpa using h)])
  rw [← hr] at HN
  rw [hk] at HF
  have hb0 : decide ((k : Int) < 0) = false := decide_eq_false (by omega)
  have hb1 : decide (wid p.a < k) = false := decide_eq_false (by omega)
  have hb2 : ¬ wid p.a < k := by omega
  have k0 : (0 : Int) ≤ (k : Int) := by omega
  generalize b8s (cut p.a.B k) = D2 at *
  clear hr hk
  rw [← hE]
  have HW := Lib.hid hw1
  have K1 : Hid (∀ S, Keeps S w w1) := Lib.hid k1
  unfold av at HCW
  unfold pv
  clear hE hw1 k1 b1 hp
  generalize b8s p.a.B = D at *
  generalize adc p.a = C at *
  generalize wid p.a = W at *
  generalize pxc p = CP at *
  go_enter Tryz.func21, Tryz.ntmps21
  go_wp2_with fail
  rw [← HW.out]
  refine q_region (by kernel_rfl) (by kernel_rfl) (Old.refl w1) ?_
  --@0
  refine q_any (by kernel_rfl) ?_ (fun wq hC => ?_) ?_
  rotate_left
  · (go_simp) <;> (try (with_reducible rfl))
  try simp only [Act.put, Array.getInternal_eq_getElem, List.getElem_toArray, List.getElem_cons_zero, List.getElem_cons_succ, List.setIfInBounds_toArray, List.set_cons_zero, List.set_cons_succ]
  --@1
  refine q_any (by kernel_rfl) ?_ (fun wq hC => ?_) ?_
  rotate_left
  · (have hF := (HF wq hC); (try dsimp only at hF); go_simp) <;> (try (with_reducible rfl))
  try simp only [Act.put, Array.getInternal_eq_getElem, List.getElem_toArray, List.getElem_cons_zero, List.getElem_cons_succ, List.setIfInBounds_toArray, List.set_cons_zero, List.set_cons_succ]
  --@2
  refine q_any (by kernel_rfl) ?_ (fun wq hC => ?_) ?_
  rotate_left
  · (go_simp) <;> (try (with_reducible rfl))
  try simp only [Act.put, Array.getInternal_eq_getElem, List.getElem_toArray, List.getElem_cons_zero, List.getElem_cons_succ, List.setIfInBounds_toArray, List.set_cons_zero, List.set_cons_succ]
  --@3
  refine q_any (by kernel_rfl) ?_ (fun wq hC => ?_) ?_
  rotate_left
  · (go_simp) <;> (try (with_reducible rfl))
  try simp only [Act.put, Array.getInternal_eq_getElem, List.getElem_toArray, List.getElem_cons_zero, List.getElem_cons_succ, List.setIfInBounds_toArray, List.set_cons_zero, List.set_cons_succ]
  --@4
  refine q_any (by kernel_rfl) ?_ (fun wq hC => ?_) ?_
  rotate_left
  · (go_simp) <;> (try (with_reducible rfl))
  try simp only [Act.put, Array.getInternal_eq_getElem, List.getElem_toArray, List.getElem_cons_zero, List.getElem_cons_succ, List.setIfInBounds_toArray, List.set_cons_zero, List.set_cons_succ]
  --@5
  refine q_any (by kernel_rfl) ?_ (fun wq hC => ?_) ?_
  rotate_left
  · (have hF := (HF wq hC); (try dsimp only at hF); go_simp) <;> (try (with_reducible rfl))
  try simp only [Act.put, Array.getInternal_eq_getElem, List.getElem_toArray, List.getElem_cons_zero, List.getElem_cons_succ, List.setIfInBounds_toArray, List.set_cons_zero, List.set_cons_succ]
  --@6
  refine q_any (by kernel_rfl) ?_ (fun wq hC => ?_) ?_
  rotate_left
  · (go_simp) <;> (try (with_reducible rfl))
  try simp only [Act.put, Array.getInternal_eq_getElem, List.getElem_toArray, List.getElem_cons_zero, List.getElem_cons_succ, List.setIfInBounds_toArray, List.set_cons_zero, List.set_cons_succ]
  --@7
  refine q_load (by kernel_rfl) 24 _ rfl w.heap.size 0 rfl C _ (fun wq hC => (HF wq hC).2.1) Tryz.underlying24 rfl HSA.out ?_
  try simp only [Act.put, Array.getInternal_eq_getElem, List.getElem_toArray, List.getElem_cons_zero, List.getElem_cons_succ, List.setIfInBounds_toArray, List.set_cons_zero, List.set_cons_succ]
  --@8
  refine q_call (by kernel_rfl) (fun wq hC => old_call hC (HCW wq).out) (fun wq => ?_) ?_
  · go_simp <;> (try (with_reducible rfl))
  try simp only [Act.put, Array.getInternal_eq_getElem, List.getElem_toArray, List.getElem_cons_zero, List.getElem_cons_succ, List.setIfInBounds_toArray, List.set_cons_zero, List.set_cons_succ]
  --@9
  refine q_any (by kernel_rfl) ?_ (fun wq hC => ?_) ?_
  rotate_left
  · (go_simp) <;> (try (with_reducible rfl))
  try simp only [Act.put, Array.getInternal_eq_getElem, List.getElem_toArray, List.getElem_cons_zero, List.getElem_cons_succ, List.setIfInBounds_toArray, List.set_cons_zero, List.set_cons_succ]
  --@10
  refine q_any (by kernel_rfl) ?_ (fun wq hC => ?_) ?_
  rotate_left
  · (go_simp) <;> (try (with_reducible rfl))
  try simp only [Act.put, Array.getInternal_eq_getElem, List.getElem_toArray, List.getElem_cons_zero, List.getElem_cons_succ, List.setIfInBounds_toArray, List.set_cons_zero, List.set_cons_succ]
  --@11
  refine q_any (by kernel_rfl) ?_ (fun wq hC => ?_) ?_
  rotate_left
  · (go_simp) <;> (try (with_reducible rfl))
  try simp only [Act.put, Array.getInternal_eq_getElem, List.getElem_toArray, List.getElem_cons_zero, List.getElem_cons_succ, List.setIfInBounds_toArray, List.set_cons_zero, List.set_cons_succ]
  --@12
  refine q_any (by kernel_rfl) ?_ (fun wq hC => ?_) ?_
  rotate_left
  · (go_simp) <;> (try (with_reducible rfl))
  try simp only [Act.put, Array.getInternal_eq_getElem, List.getElem_toArray, List.getElem_cons_zero, List.getElem_cons_succ, List.setIfInBounds_toArray, List.set_cons_zero, List.set_cons_succ]
  --@13
  refine q_any (by kernel_rfl) ?_ (fun wq hC => ?_) ?_
  rotate_left
  · (go_simp) <;> (try (with_reducible rfl))
  try simp only [Act.put, Array.getInternal_eq_getElem, List.getElem_toArray, List.getElem_cons_zero, List.getElem_cons_succ, List.setIfInBounds_toArray, List.set_cons_zero, List.set_cons_succ]
  --@14
  refine q_load (by kernel_rfl) 22 _ rfl w.heap.size 1 rfl D _ (fun wq hC => (HF wq hC).2.2.1) Tryz.underlying22 rfl HSB.out ?_
  try simp only [Act.put, Array.getInternal_eq_getElem, List.getElem_toArray, List.getElem_cons_zero, List.getElem_cons_succ, List.setIfInBounds_toArray, List.set_cons_zero, List.set_cons_succ]
  --@15
  refine q_any (by kernel_rfl) ?_ (fun wq hC => ?_) ?_
  rotate_left
  · (go_simp) <;> (try (with_reducible rfl))
  try simp only [Act.put, Array.getInternal_eq_getElem, List.getElem_toArray, List.getElem_cons_zero, List.getElem_cons_succ, List.setIfInBounds_toArray, List.set_cons_zero, List.set_cons_succ]
  --@16
  refine q_any (by kernel_rfl) ?_ (fun wq hC => ?_) ?_
  rotate_left
  · (go_simp) <;> (try (with_reducible rfl))
  try simp only [Act.put, Array.getInternal_eq_getElem, List.getElem_toArray, List.getElem_cons_zero, List.getElem_cons_succ, List.setIfInBounds_toArray, List.set_cons_zero, List.set_cons_succ]
  --@17
  refine q_load (by kernel_rfl) 22 _ rfl w.heap.size 1 rfl D _ (fun wq hC => (HF wq hC).2.2.1) Tryz.underlying22 rfl HSB.out ?_
  try simp only [Act.put, Array.getInternal_eq_getElem, List.getElem_toArray, List.getElem_cons_zero, List.getElem_cons_succ, List.setIfInBounds_toArray, List.set_cons_zero, List.set_cons_succ]
  --@18
  refine q_any (by kernel_rfl) ?_ (fun wq hC => ?_) ?_
  rotate_left
  · (go_simp) <;> (try (with_reducible rfl))
  try simp only [Act.put, Array.getInternal_eq_getElem, List.getElem_toArray, List.getElem_cons_zero, List.getElem_cons_succ, List.setIfInBounds_toArray, List.set_cons_zero, List.set_cons_succ]
  --@19
  refine q_any (by kernel_rfl) ?_ (fun wq hC => ?_) ?_
  rotate_left
  · (have hF := (HF wq hC); (try dsimp only at hF); go_simp) <;> (try (with_reducible rfl))
  try simp only [Act.put, Array.getInternal_eq_getElem, List.getElem_toArray, List.getElem_cons_zero, List.getElem_cons_succ, List.setIfInBounds_toArray, List.set_cons_zero, List.set_cons_succ]
  --@20
  refine q_call (by kernel_rfl) (fun wq hC => old_call hC (HCF wq).out) (fun wq => ?_) ?_
  · go_simp <;> (try (with_reducible rfl))
  try simp only [Act.put, Array.getInternal_eq_getElem, List.getElem_toArray, List.getElem_cons_zero, List.getElem_cons_succ, List.setIfInBounds_toArray, List.set_cons_zero, List.set_cons_succ]
  --@21
  refine q_any (by kernel_rfl) ?_ (fun wq hC => ?_) ?_
  rotate_left
  · (have hN := (HN wq).out; go_simp) <;> (try (with_reducible rfl))
  try simp only [Act.put, Array.getInternal_eq_getElem, List.getElem_toArray, List.getElem_cons_zero, List.getElem_cons_succ, List.setIfInBounds_toArray, List.set_cons_zero, List.set_cons_succ]
  --@22
  refine q_any (by kernel_rfl) ?_ (fun wq hC => ?_) ?_
  rotate_left
  · (go_simp) <;> (try (with_reducible rfl))
  try simp only [Act.put, Array.getInternal_eq_getElem, List.getElem_toArray, List.getElem_cons_zero, List.getElem_cons_succ, List.setIfInBounds_toArray, List.set_cons_zero, List.set_cons_succ]
  refine q_nil ?_
  intro wz kwz
  clear HCW HF HSA HSB HCF HN
  have KZ : Hid (∀ S, Keeps S w wz) := Lib.hid (fun S => (K1.out S).trans (kwz.all S))
  clear kwz
  cases r with
  | true =>
    go_wp2
    try rw [Exit.noGoto_ret]
    go_ret
    exact ⟨by rw [HE.out]; rfl, KZ.out⟩
  | false =>
    go_wp2
    try rw [Exit.noGoto_ret]
    go_ret
    exact ⟨by rw [HE.out]; rfl, KZ.out⟩
theorem pcheck_ (p : Px) (hp : p.a.Wf) : Calls Tryz.prog 21 #[pv p] w fun e w' => e = .returned (.int .i64 (errP p)) ∧ ∀ S, Keeps S w w' := by
  by_cases hb : p.bits < 0
  · exact pcheck_neg w p hp hb
  · by_cases hc : (wid p.a : Int) < p.bits
    · exact pcheck_over w p hp hb hc
    · exact pcheck_in w p hp p.bits.toNat (by omega) (by omega)
end
end Go.Proofs.YtgcdhfpbmcfedaaGreatDoor.pf
end
section
set_option linter.unusedVariables false
set_option linter.unusedSimpArgs false
namespace Go.Proofs.YtgcdhfpbmcfedaaGreatDoor.pf
open Go.RowKit Go.Proofs.YtgcdhfpbmcfedaaGreatDoor.oc Go.Proofs.YtgcdhfpbmcfedaaGreatDoor.mz Go.Proofs.YtgcdhfpbmcfedaaGreatDoor.wh Go.Proofs.YtgcdhfpbmcfedaaGreatDoor.qk
section
variable (w : World)

set_option maxRecDepth 100000 in
set_option maxHeartbeats 4000000 in
theorem pof_addr (a : Ad) (bits : Int) (ha : a.Wf) (ho : ¬ okA a) : Calls Tryz.prog 11 #[av a, .int .i64 bits] w fun e w' => e = .returned (.tuple #[pv zeroP, .int .i64 150]) ∧ ∀ S, Keeps S w w' := by
  have HCA := fun w => Lib.hid (pcheckaddr_ w a ha)
  have HWD := fun w => Lib.hid (pwidth_ w a)
  have HSA := Lib.hid (show (Tryz.prog.info? 24).map (·.size) = some (adc a).length from by rw [adc_len ha]; exact addr_info)
  have HSZ := Lib.hid (show (Tryz.prog.info? 28).map (·.size) = some ([.bool false, .int .u8 0, .int .u8 0, .int .u8 0, .int .u8 0, .int .u8 0, .int .u8 0, .int .u8 0, .int .u8 0, .int .u8 0, .int .u8 0, .int .u8 0, .int .u8 0, .int .u8 0, .int .u8 0, .int .u8 0, .int .u8 0, .int .i64 0] : List Value).toArray.size from prefix_info)
  have HSZ2 := Lib.hid (show (Tryz.prog.info? 28).map (·.size) = some ([.bool false, .int .u8 0, .int .u8 0, .int .u8 0, .int .u8 0, .int .u8 0, .int .u8 0, .int .u8 0, .int .u8 0, .int .u8 0, .int .u8 0, .int .u8 0, .int .u8 0, .int .u8 0, .int .u8 0, .int .u8 0, .int .u8 0, .int .i64 0] : List Value).length from prefix_info)
  have HZO := Lib.hid (all_oneCell_toArray zero_one)
  obtain ⟨w1, hw1, k1, bP, bQ⟩ := box_two w (adc a) [.bool false, .int .u8 0, .int .u8 0, .int .u8 0, .int .u8 0, .int .u8 0, .int .u8 0, .int .u8 0, .int .u8 0, .int .u8 0, .int .u8 0, .int .u8 0, .int .u8 0, .int .u8 0, .int .u8 0, .int .u8 0, .int .u8 0, .int .i64 0] 24 28
  have HL1 := Lib.hid (wh.Blk.range bP)
  have HW : Hid (w1 = (w.alloc (.cells (adc a).toArray 24)).alloc (.cells #[.bool false, .int .u8 0, .int .u8 0, .int .u8 0, .int .u8 0, .int .u8 0, .int .u8 0, .int .u8 0, .int .u8 0, .int .u8 0, .int .u8 0, .int .u8 0, .int .u8 0, .int .u8 0, .int .u8 0, .int .u8 0, .int .u8 0, .int .i64 0] 28)) := Lib.hid hw1
  have K1 : Hid (∀ S, Keeps S w w1) := Lib.hid k1
  have BP := Lib.hid bP
  have BQ := Lib.hid bQ
  rw [errA_no ho] at HCA
  clear ho ha
  unfold av at HCA HWD
  unfold av
  clear hw1 k1 bP bQ
  go_enter Tryz.func11, Tryz.ntmps11
  go_wp2_with (first | (rw [← HW.out]; refine wpList_load_mid rfl 24 _ rfl w.heap.size 0 rfl (adc a) _ HL1.out Tryz.underlying24 rfl HSA.out ?_))
  refine (HCA _).out.mono ?_
  rintro e w2 ⟨rfl, k2⟩
  have K2 : Hid (∀ S, Keeps S w w2) := Lib.hid (fun S => (K1.out S).trans (k2 S))
  have BP2 := Lib.hid (Blk.keeps BP.out (k2 (fun _ => False)) (fun z => z))
  have BQ2 := Lib.hid (Blk.keeps BQ.out (k2 (fun _ => False)) (fun z => z))
  have HL2 := Lib.hid (wh.Blk.range BP2.out)
  clear k2
  obtain ⟨t0, b9, k9⟩ := over_all (vs := [.bool false, .int .u8 0, .int .u8 0, .int .u8 0, .int .u8 0, .int .u8 0, .int .u8 0, .int .u8 0, .int .u8 0, .int .u8 0, .int .u8 0, .int .u8 0, .int .u8 0, .int .u8 0, .int .u8 0, .int .u8 0, .int .u8 0, .int .i64 0]) BQ2.out rfl
  have HT := Lib.hid t0
  have B9 := Lib.hid b9
  have K9 := Lib.hid k9
  clear t0 b9 k9
  go_wp2_with (refine wpList_store_mid rfl 28 _ _ rfl (w.heap.size + 1) 0 ([.bool false, .int .u8 0, .int .u8 0, .int .u8 0, .int .u8 0, .int .u8 0, .int .u8 0, .int .u8 0, .int .u8 0, .int .u8 0, .int .u8 0, .int .u8 0, .int .u8 0, .int .u8 0, .int .u8 0, .int .u8 0, .int .u8 0, .int .i64 0] : List Value).toArray rfl rfl HT.out HSZ.out HZO.out ?_)
  try rw [Exit.noGoto_ret]
  refine bodyPost_ret (wh.ret_cell (p := 4) (u := 5) (ty := 28) (by kernel_rfl) _ _ _ (w.heap.size + 1) _ _ _ (by rfl) B9.out Tryz.underlying28 rfl HSZ2.out) rfl ?_
  refine ⟨rfl, fun S => ?_⟩
  have kk := K2.out S
  have k9 := K9.out
  exact ⟨Nat.le_trans kk.size k9.size, fun x hx hs => by rw [k9.block x (Nat.lt_of_lt_of_le hx kk.size) (by omega), kk.block x hx hs], kk.same.trans k9.same⟩
set_option maxRecDepth 100000 in
set_option maxHeartbeats 4000000 in
theorem pof_neg (a : Ad) (bits : Int) (ha : a.Wf) (ho : okA a) (hb : bits < 0) : Calls Tryz.prog 11 #[av a, .int .i64 bits] w fun e w' => e = .returned (.tuple #[pv zeroP, .int .i64 151]) ∧ ∀ S, Keeps S w w' := by
  have HCA := fun w => Lib.hid (pcheckaddr_ w a ha)
  have HWD := fun w => Lib.hid (pwidth_ w a)
  have HSA := Lib.hid (show (Tryz.prog.info? 24).map (·.size) = some (adc a).length from by rw [adc_len ha]; exact addr_info)
  have HSZ := Lib.hid (show (Tryz.prog.info? 28).map (·.size) = some ([.bool false, .int .u8 0, .int .u8 0, .int .u8 0, .int .u8 0, .int .u8 0, .int .u8 0, .int .u8 0, .int .u8 0, .int .u8 0, .int .u8 0, .int .u8 0, .int .u8 0, .int .u8 0, .int .u8 0, .int .u8 0, .int .u8 0, .int .i64 0] : List Value).toArray.size from prefix_info)
  have HSZ2 := Lib.hid (show (Tryz.prog.info? 28).map (·.size) = some ([.bool false, .int .u8 0, .int .u8 0, .int .u8 0, .int .u8 0, .int .u8 0, .int .u8 0, .int .u8 0, .int .u8 0, .int .u8 0, .int .u8 0, .int .u8 0, .int .u8 0, .int .u8 0, .int .u8 0, .int .u8 0, .int .u8 0, .int .i64 0] : List Value).length from prefix_info)
  have HZO := Lib.hid (all_oneCell_toArray zero_one)
  obtain ⟨w1, hw1, k1, bP, bQ⟩ := box_two w (adc a) [.bool false, .int .u8 0, .int .u8 0, .int .u8 0, .int .u8 0, .int .u8 0, .int .u8 0, .int .u8 0, .int .u8 0, .int .u8 0, .int .u8 0, .int .u8 0, .int .u8 0, .int .u8 0, .int .u8 0, .int .u8 0, .int .u8 0, .int .i64 0] 24 28
  have HL1 := Lib.hid (wh.Blk.range bP)
  have HW : Hid (w1 = (w.alloc (.cells (adc a).toArray 24)).alloc (.cells #[.bool false, .int .u8 0, .int .u8 0, .int .u8 0, .int .u8 0, .int .u8 0, .int .u8 0, .int .u8 0, .int .u8 0, .int .u8 0, .int .u8 0, .int .u8 0, .int .u8 0, .int .u8 0, .int .u8 0, .int .u8 0, .int .u8 0, .int .i64 0] 28)) := Lib.hid hw1
  have K1 : Hid (∀ S, Keeps S w w1) := Lib.hid k1
  have BP := Lib.hid bP
  have BQ := Lib.hid bQ
  rw [errA_ok ho] at HCA
  clear ho ha
  unfold av at HCA HWD
  unfold av
  clear hw1 k1 bP bQ
  go_enter Tryz.func11, Tryz.ntmps11
  go_wp2_with (first | (rw [← HW.out]; refine wpList_load_mid rfl 24 _ rfl w.heap.size 0 rfl (adc a) _ HL1.out Tryz.underlying24 rfl HSA.out ?_))
  refine (HCA _).out.mono ?_
  rintro e w2 ⟨rfl, k2⟩
  have K2 : Hid (∀ S, Keeps S w w2) := Lib.hid (fun S => (K1.out S).trans (k2 S))
  have BP2 := Lib.hid (Blk.keeps BP.out (k2 (fun _ => False)) (fun z => z))
  have BQ2 := Lib.hid (Blk.keeps BQ.out (k2 (fun _ => False)) (fun z => z))
  have HL2 := Lib.hid (wh.Blk.range BP2.out)
  clear k2
  obtain ⟨t0, b9, k9⟩ := over_all (vs := [.bool false, .int .u8 0, .int .u8 0, .int .u8 0, .int .u8 0, .int .u8 0, .int .u8 0, .int .u8 0, .int .u8 0, .int .u8 0, .int .u8 0, .int .u8 0, .int .u8 0, .int .u8 0, .int .u8 0, .int .u8 0, .int .u8 0, .int .i64 0]) BQ2.out rfl
  have HT := Lib.hid t0
  have B9 := Lib.hid b9
  have K9 := Lib.hid k9
  clear t0 b9 k9
  go_wp2_with (refine wpList_store_mid rfl 28 _ _ rfl (w.heap.size + 1) 0 ([.bool false, .int .u8 0, .int .u8 0, .int .u8 0, .int .u8 0, .int .u8 0, .int .u8 0, .int .u8 0, .int .u8 0, .int .u8 0, .int .u8 0, .int .u8 0, .int .u8 0, .int .u8 0, .int .u8 0, .int .u8 0, .int .u8 0, .int .i64 0] : List Value).toArray rfl rfl HT.out HSZ.out HZO.out ?_)
  try rw [Exit.noGoto_ret]
  refine bodyPost_ret (wh.ret_cell (p := 4) (u := 5) (ty := 28) (by kernel_rfl) _ _ _ (w.heap.size + 1) _ _ _ (by rfl) B9.out Tryz.underlying28 rfl HSZ2.out) rfl ?_
  refine ⟨rfl, fun S => ?_⟩
  have kk := K2.out S
  have k9 := K9.out
  exact ⟨Nat.le_trans kk.size k9.size, fun x hx hs => by rw [k9.block x (Nat.lt_of_lt_of_le hx kk.size) (by omega), kk.block x hx hs], kk.same.trans k9.same⟩
set_option maxRecDepth 100000 in
set_option maxHeartbeats 4000000 in
theorem pof_over (a : Ad) (bits : Int) (ha : a.Wf) (ho : okA a) (hb : ¬ bits < 0) (hc : (wid a : Int) < bits) : Calls Tryz.prog 11 #[av a, .int .i64 bits] w fun e w' => e = .returned (.tuple #[pv zeroP, .int .i64 151]) ∧ ∀ S, Keeps S w w' := by
  have HCA := fun w => Lib.hid (pcheckaddr_ w a ha)
  have HWD := fun w => Lib.hid (pwidth_ w a)
  have HSA := Lib.hid (show (Tryz.prog.info? 24).map (·.size) = some (adc a).length from by rw [adc_len ha]; exact addr_info)
  have HSZ := Lib.hid (show (Tryz.prog.info? 28).map (·.size) = some ([.bool false, .int .u8 0, .int .u8 0, .int .u8 0, .int .u8 0, .int .u8 0, .int .u8 0, .int .u8 0, .int .u8 0, .int .u8 0, .int .u8 0, .int .u8 0, .int .u8 0, .int .u8 0, .int .u8 0, .int .u8 0, .int .u8 0, .int .i64 0] : List Value).toArray.size from prefix_info)
  have HSZ2 := Lib.hid (show (Tryz.prog.info? 28).map (·.size) = some ([.bool false, .int .u8 0, .int .u8 0, .int .u8 0, .int .u8 0, .int .u8 0, .int .u8 0, .int .u8 0, .int .u8 0, .int .u8 0, .int .u8 0, .int .u8 0, .int .u8 0, .int .u8 0, .int .u8 0, .int .u8 0, .int .u8 0, .int .i64 0] : List Value).length from prefix_info)
  have HZO := Lib.hid (all_oneCell_toArray zero_one)
  obtain ⟨w1, hw1, k1, bP, bQ⟩ := box_two w (adc a) [.bool false, .int .u8 0, .int .u8 0, .int .u8 0, .int .u8 0, .int .u8 0, .int .u8 0, .int .u8 0, .int .u8 0, .int .u8 0, .int .u8 0, .int .u8 0, .int .u8 0, .int .u8 0, .int .u8 0, .int .u8 0, .int .u8 0, .int .i64 0] 24 28
  have HL1 := Lib.hid (wh.Blk.range bP)
  have HW : Hid (w1 = (w.alloc (.cells (adc a).toArray 24)).alloc (.cells #[.bool false, .int .u8 0, .int .u8 0, .int .u8 0, .int .u8 0, .int .u8 0, .int .u8 0, .int .u8 0, .int .u8 0, .int .u8 0, .int .u8 0, .int .u8 0, .int .u8 0, .int .u8 0, .int .u8 0, .int .u8 0, .int .u8 0, .int .i64 0] 28)) := Lib.hid hw1
  have K1 : Hid (∀ S, Keeps S w w1) := Lib.hid k1
  have BP := Lib.hid bP
  have BQ := Lib.hid bQ
  rw [errA_ok ho] at HCA
  generalize wid a = W at *
  have hbd : decide (bits < 0) = false := decide_eq_false hb
  clear ho ha
  unfold av at HCA HWD
  unfold av
  clear hw1 k1 bP bQ
  go_enter Tryz.func11, Tryz.ntmps11
  go_wp2_with (first | (rw [← HW.out]; refine wpList_load_mid rfl 24 _ rfl w.heap.size 0 rfl (adc a) _ HL1.out Tryz.underlying24 rfl HSA.out ?_))
  refine (HCA _).out.mono ?_
  rintro e w2 ⟨rfl, k2⟩
  have K2 : Hid (∀ S, Keeps S w w2) := Lib.hid (fun S => (K1.out S).trans (k2 S))
  have BP2 := Lib.hid (Blk.keeps BP.out (k2 (fun _ => False)) (fun z => z))
  have BQ2 := Lib.hid (Blk.keeps BQ.out (k2 (fun _ => False)) (fun z => z))
  have HL2 := Lib.hid (wh.Blk.range BP2.out)
  clear k2
  go_wp2_with (refine wpList_load_want (by kernel_rfl) 24 _ rfl w.heap.size 0 rfl (adc a) _ HL2.out Tryz.underlying24 rfl HSA.out ?_)
  refine (HWD _).out.mono ?_
  rintro e w3 ⟨rfl, k3⟩
  have K3 : Hid (∀ S, Keeps S w w3) := Lib.hid (fun S => (K2.out S).trans (k3 S))
  have BQ3 := Lib.hid (Blk.keeps BQ2.out (k3 (fun _ => False)) (fun z => z))
  clear k3
  obtain ⟨t0, b9, k9⟩ := over_all (vs := [.bool false, .int .u8 0, .int .u8 0, .int .u8 0, .int .u8 0, .int .u8 0, .int .u8 0, .int .u8 0, .int .u8 0, .int .u8 0, .int .u8 0, .int .u8 0, .int .u8 0, .int .u8 0, .int .u8 0, .int .u8 0, .int .u8 0, .int .i64 0]) BQ3.out rfl
  have HT := Lib.hid t0
  have B9 := Lib.hid b9
  have K9 := Lib.hid k9
  clear t0 b9 k9
  go_wp2_with (refine wpList_store_mid rfl 28 _ _ rfl (w.heap.size + 1) 0 ([.bool false, .int .u8 0, .int .u8 0, .int .u8 0, .int .u8 0, .int .u8 0, .int .u8 0, .int .u8 0, .int .u8 0, .int .u8 0, .int .u8 0, .int .u8 0, .int .u8 0, .int .u8 0, .int .u8 0, .int .u8 0, .int .u8 0, .int .i64 0] : List Value).toArray rfl rfl HT.out HSZ.out HZO.out ?_)
  try rw [Exit.noGoto_ret]
  refine bodyPost_ret (wh.ret_cell (p := 4) (u := 5) (ty := 28) (by kernel_rfl) _ _ _ (w.heap.size + 1) _ _ _ (by rfl) B9.out Tryz.underlying28 rfl HSZ2.out) rfl ?_
  refine ⟨rfl, fun S => ?_⟩
  have kk := K3.out S
  have k9 := K9.out
  exact ⟨Nat.le_trans kk.size k9.size, fun x hx hs => by rw [k9.block x (Nat.lt_of_lt_of_le hx kk.size) (by omega), kk.block x hx hs], kk.same.trans k9.same⟩
set_option maxRecDepth 100000 in
set_option maxHeartbeats 4000000 in
theorem pof_in (a : Ad) (bits : Int) (ha : a.Wf) (m : Nat) (hbm : bits = (m : Int)) (ho : okA a) (hm : m ≤ wid a) : Calls Tryz.prog 11 #[av a, .int .i64 bits] w fun e w' => e = .returned (.tuple #[pv (ofP a m), .int .i64 0]) ∧ ∀ S, Keeps S w w' := by
  have HCA := fun w => Lib.hid (pcheckaddr_ w a ha)
  have HWD := fun w => Lib.hid (pwidth_ w a)
  have HSA := Lib.hid (show (Tryz.prog.info? 24).map (·.size) = some (adc a).length from by rw [adc_len ha]; exact addr_info)
  have HSZ := Lib.hid (show (Tryz.prog.info? 28).map (·.size) = some ([.bool false, .int .u8 0, .int .u8 0, .int .u8 0, .int .u8 0, .int .u8 0, .int .u8 0, .int .u8 0, .int .u8 0, .int .u8 0, .int .u8 0, .int .u8 0, .int .u8 0, .int .u8 0, .int .u8 0, .int .u8 0, .int .u8 0, .int .i64 0] : List Value).toArray.size from prefix_info)
  have HSZ2 := Lib.hid (show (Tryz.prog.info? 28).map (·.size) = some ([.bool false, .int .u8 0, .int .u8 0, .int .u8 0, .int .u8 0, .int .u8 0, .int .u8 0, .int .u8 0, .int .u8 0, .int .u8 0, .int .u8 0, .int .u8 0, .int .u8 0, .int .u8 0, .int .u8 0, .int .u8 0, .int .u8 0, .int .i64 0] : List Value).length from prefix_info)
  have HZO := Lib.hid (all_oneCell_toArray zero_one)
  obtain ⟨w1, hw1, k1, bP, bQ⟩ := box_two w (adc a) [.bool false, .int .u8 0, .int .u8 0, .int .u8 0, .int .u8 0, .int .u8 0, .int .u8 0, .int .u8 0, .int .u8 0, .int .u8 0, .int .u8 0, .int .u8 0, .int .u8 0, .int .u8 0, .int .u8 0, .int .u8 0, .int .u8 0, .int .i64 0] 24 28
  have HL1 := Lib.hid (wh.Blk.range bP)
  have HW : Hid (w1 = (w.alloc (.cells (adc a).toArray 24)).alloc (.cells #[.bool false, .int .u8 0, .int .u8 0, .int .u8 0, .int .u8 0, .int .u8 0, .int .u8 0, .int .u8 0, .int .u8 0, .int .u8 0, .int .u8 0, .int .u8 0, .int .u8 0, .int .u8 0, .int .u8 0, .int .u8 0, .int .u8 0, .int .i64 0] 28)) := Lib.hid hw1
  have K1 : Hid (∀ S, Keeps S w w1) := Lib.hid k1
  have BP := Lib.hid bP
  have BQ := Lib.hid bQ
  rw [errA_ok ho] at HCA
  have HCF := fun w => Lib.hid (first_ w a.B m ha.len ha.sm (Nat.le_trans hm (wid_le a).1))
  have HSB := Lib.hid (b8_info ha.len)
  have HLB : ∀ w', Blk w' w.heap.size 24 (adc a) → w'.rangeAt w.heap.size 1 (b8s a.B) := fun w' h => ad_bytes h
  have hcw := clr_wf ha m
  have HO := Lib.hid (all_oneCell_toArray (b8_one (cut a.B m)))
  have HS2 := Lib.hid (show (Tryz.prog.info? 22).map (·.size) = some (b8s (cut a.B m)).toArray.size from by rw [List.size_toArray]; exact b8_info ((cut_len _ _).trans ha.len))
  have HPUT : ∀ w', Blk w' w.heap.size 24 (adc a) → w'.there w.heap.size 1 (b8s (cut a.B m)).toArray.size ∧ Blk (w'.setCells w.heap.size 1 (b8s (cut a.B m))) w.heap.size 24 (adc (clr a m)) := fun w' h => by
    have hl : (b8s (cut a.B m)).length = 16 := by rw [b8_len, cut_len]; exact ha.len
    constructor
    · have ht := wh.Blk.thereAll h
      intro j hj
      rw [List.size_toArray, hl] at hj
      have := ht (1 + j) (by rw [adc_len ha]; omega)
      rw [Nat.zero_add] at this
      exact this
    · have hm := wh.Blk.setMid (b8s (cut a.B m)) w' (adc a) 1 h (by rw [hl, adc_len ha]; omega)
      have e : (adc a).take 1 ++ b8s (cut a.B m) ++ (adc a).drop (1 + (b8s (cut a.B m)).length) = adc (clr a m) := by
        rw [hl, List.drop_eq_nil_of_le (by rw [adc_len ha]; omega), List.append_nil]
        rfl
      rw [e] at hm
      exact hm
  subst hbm
  have hb0 : ¬ (m : Int) < 0 := by omega
  have hbd : decide ((m : Int) < 0) = false := decide_eq_false hb0
  have hcn : ¬ wid a < m := by omega
  have hofp : pv (ofP a m) = pv ⟨clr a m, (m : Int)⟩ := rfl
  rw [hofp]
  clear hofp
  clear ho ha hm
  obtain ⟨q0, q1, q2, q3, q4, q5, q6, q7, q8, q9, q10, q11, q12, q13, q14, q15, hq⟩ := sixteen hcw.len
  generalize hcb : clr a m = b at *
  obtain ⟨v, Bl⟩ := b
  simp only at hq
  subst hq
  clear hcb
  unfold av at HCA HWD
  unfold av
  clear hw1 k1 bP bQ
  go_enter Tryz.func11, Tryz.ntmps11
  go_wp2_with (first | (rw [← HW.out]; refine wpList_load_mid rfl 24 _ rfl w.heap.size 0 rfl (adc a) _ HL1.out Tryz.underlying24 rfl HSA.out ?_))
  refine (HCA _).out.mono ?_
  rintro e w2 ⟨rfl, k2⟩
  have K2 : Hid (∀ S, Keeps S w w2) := Lib.hid (fun S => (K1.out S).trans (k2 S))
  have BP2 := Lib.hid (Blk.keeps BP.out (k2 (fun _ => False)) (fun z => z))
  have BQ2 := Lib.hid (Blk.keeps BQ.out (k2 (fun _ => False)) (fun z => z))
  have HL2 := Lib.hid (wh.Blk.range BP2.out)
  clear k2
  go_wp2_with (refine wpList_load_want (by kernel_rfl) 24 _ rfl w.heap.size 0 rfl (adc a) _ HL2.out Tryz.underlying24 rfl HSA.out ?_)
  refine (HWD _).out.mono ?_
  rintro e w3 ⟨rfl, k3⟩
  have K3 : Hid (∀ S, Keeps S w w3) := Lib.hid (fun S => (K2.out S).trans (k3 S))
  have BP3 := Lib.hid (Blk.keeps BP2.out (k3 (fun _ => False)) (fun z => z))
  have BQ3 := Lib.hid (Blk.keeps BQ2.out (k3 (fun _ => False)) (fun z => z))
  have HLB3 := Lib.hid (HLB w3 BP3.out)
  clear k3 HL1 HL2 HCA HWD K1 K2 BP BQ BP2 BQ2
  generalize b8s a.B = D at *
  generalize b8s (cut a.B m) = D2 at *
  go_wp2_with (refine wpList_load_mid rfl 22 _ rfl w.heap.size 1 rfl D _ HLB3.out Tryz.underlying22 rfl HSB.out ?_)
  refine (HCF _).out.mono ?_
  rintro e w4 ⟨rfl, k4⟩
  have BP4 := Blk.keeps BP3.out (k4 (fun _ => False)) (fun z => z)
  have BQ4 := Blk.keeps BQ3.out (k4 (fun _ => False)) (fun z => z)
  obtain ⟨t4, b4⟩ := HPUT w4 BP4
  have kq := wh.keeps_setCells w.heap.size D2 w4 1
  have HT4 := Lib.hid t4
  obtain ⟨w5, hw5⟩ : ∃ w5, w5 = w4.setCells w.heap.size 1 D2 := ⟨_, rfl⟩
  rw [← hw5] at b4 kq
  have HW5 := Lib.hid hw5
  have BQ5 := Lib.hid (Blk.keeps BQ4 kq (by omega))
  have K5 : Hid (∀ S, Keeps S w w5) := Lib.hid (fun S => by
    have kk := (K3.out S).trans (k4 S)
    exact ⟨Nat.le_trans kk.size kq.size, fun x hx hs => by rw [kq.block x (Nat.lt_of_lt_of_le hx kk.size) (by omega), kk.block x hx hs], kk.same.trans kq.same⟩)
  have HLq : Hid (w5.rangeAt w.heap.size 0 [.bool v, .int .u8 (q0 : Int), .int .u8 (q1 : Int), .int .u8 (q2 : Int), .int .u8 (q3 : Int), .int .u8 (q4 : Int), .int .u8 (q5 : Int), .int .u8 (q6 : Int), .int .u8 (q7 : Int), .int .u8 (q8 : Int), .int .u8 (q9 : Int), .int .u8 (q10 : Int), .int .u8 (q11 : Int), .int .u8 (q12 : Int), .int .u8 (q13 : Int), .int .u8 (q14 : Int), .int .u8 (q15 : Int)]) := Lib.hid (Blk.range b4)
  have HSq : Hid ((Tryz.prog.info? 24).map (·.size) = some ([.bool v, .int .u8 (q0 : Int), .int .u8 (q1 : Int), .int .u8 (q2 : Int), .int .u8 (q3 : Int), .int .u8 (q4 : Int), .int .u8 (q5 : Int), .int .u8 (q6 : Int), .int .u8 (q7 : Int), .int .u8 (q8 : Int), .int .u8 (q9 : Int), .int .u8 (q10 : Int), .int .u8 (q11 : Int), .int .u8 (q12 : Int), .int .u8 (q13 : Int), .int .u8 (q14 : Int), .int .u8 (q15 : Int)] : List Value).length) := Lib.hid addr_info
  have HSF : Hid ((Tryz.prog.info? 28).map (·.size) = some ([.bool v, .int .u8 (q0 : Int), .int .u8 (q1 : Int), .int .u8 (q2 : Int), .int .u8 (q3 : Int), .int .u8 (q4 : Int), .int .u8 (q5 : Int), .int .u8 (q6 : Int), .int .u8 (q7 : Int), .int .u8 (q8 : Int), .int .u8 (q9 : Int), .int .u8 (q10 : Int), .int .u8 (q11 : Int), .int .u8 (q12 : Int), .int .u8 (q13 : Int), .int .u8 (q14 : Int), .int .u8 (q15 : Int), .int .i64 (m : Int)] : List Value).toArray.size) := Lib.hid prefix_info
  have HSF2 : Hid ((Tryz.prog.info? 28).map (·.size) = some ([.bool v, .int .u8 (q0 : Int), .int .u8 (q1 : Int), .int .u8 (q2 : Int), .int .u8 (q3 : Int), .int .u8 (q4 : Int), .int .u8 (q5 : Int), .int .u8 (q6 : Int), .int .u8 (q7 : Int), .int .u8 (q8 : Int), .int .u8 (q9 : Int), .int .u8 (q10 : Int), .int .u8 (q11 : Int), .int .u8 (q12 : Int), .int .u8 (q13 : Int), .int .u8 (q14 : Int), .int .u8 (q15 : Int), .int .i64 (m : Int)] : List Value).length) := Lib.hid prefix_info
  have HOF : Hid ((([.bool v, .int .u8 (q0 : Int), .int .u8 (q1 : Int), .int .u8 (q2 : Int), .int .u8 (q3 : Int), .int .u8 (q4 : Int), .int .u8 (q5 : Int), .int .u8 (q6 : Int), .int .u8 (q7 : Int), .int .u8 (q8 : Int), .int .u8 (q9 : Int), .int .u8 (q10 : Int), .int .u8 (q11 : Int), .int .u8 (q12 : Int), .int .u8 (q13 : Int), .int .u8 (q14 : Int), .int .u8 (q15 : Int), .int .i64 (m : Int)] : List Value).toArray.all (·.oneCell')) = true) := Lib.hid (all_oneCell_toArray (px_one ⟨⟨v, [q0, q1, q2, q3, q4, q5, q6, q7, q8, q9, q10, q11, q12, q13, q14, q15]⟩, (m : Int)⟩))
  obtain ⟨t0, b9, k9⟩ := over_all (vs := [.bool v, .int .u8 (q0 : Int), .int .u8 (q1 : Int), .int .u8 (q2 : Int), .int .u8 (q3 : Int), .int .u8 (q4 : Int), .int .u8 (q5 : Int), .int .u8 (q6 : Int), .int .u8 (q7 : Int), .int .u8 (q8 : Int), .int .u8 (q9 : Int), .int .u8 (q10 : Int), .int .u8 (q11 : Int), .int .u8 (q12 : Int), .int .u8 (q13 : Int), .int .u8 (q14 : Int), .int .u8 (q15 : Int), .int .i64 (m : Int)]) BQ5.out rfl
  have HT := Lib.hid t0
  have B9 := Lib.hid b9
  have K9 := Lib.hid k9
  clear t0 b9 k9 k4 BP4 BQ4 t4 b4 kq hw5 HPUT HLB
  go_wp2_with (first | (refine wpList_store_mid rfl 22 _ _ rfl w.heap.size 1 D2.toArray rfl rfl HT4.out HS2.out HO.out ?_; rw [← HW5.out]) | (refine wpList_load_mid rfl 24 _ rfl w.heap.size 0 rfl [.bool v, .int .u8 (q0 : Int), .int .u8 (q1 : Int), .int .u8 (q2 : Int), .int .u8 (q3 : Int), .int .u8 (q4 : Int), .int .u8 (q5 : Int), .int .u8 (q6 : Int), .int .u8 (q7 : Int), .int .u8 (q8 : Int), .int .u8 (q9 : Int), .int .u8 (q10 : Int), .int .u8 (q11 : Int), .int .u8 (q12 : Int), .int .u8 (q13 : Int), .int .u8 (q14 : Int), .int .u8 (q15 : Int)] _ HLq.out Tryz.underlying24 rfl HSq.out ?_) | (refine wpList_store_mid rfl 28 _ _ rfl (w.heap.size + 1) 0 ([.bool v, .int .u8 (q0 : Int), .int .u8 (q1 : Int), .int .u8 (q2 : Int), .int .u8 (q3 : Int), .int .u8 (q4 : Int), .int .u8 (q5 : Int), .int .u8 (q6 : Int), .int .u8 (q7 : Int), .int .u8 (q8 : Int), .int .u8 (q9 : Int), .int .u8 (q10 : Int), .int .u8 (q11 : Int), .int .u8 (q12 : Int), .int .u8 (q13 : Int), .int .u8 (q14 : Int), .int .u8 (q15 : Int), .int .i64 (m : Int)] : List Value).toArray rfl rfl HT.out HSF.out HOF.out ?_))
  try rw [Exit.noGoto_ret]
  refine bodyPost_ret (wh.ret_cell (p := 4) (u := 5) (ty := 28) (by kernel_rfl) _ _ _ (w.heap.size + 1) _ _ _ (by rfl) B9.out Tryz.underlying28 rfl HSF2.out) rfl ?_
  refine ⟨rfl, fun S => ?_⟩
  have kk := K5.out S
  have k9 := K9.out
  exact ⟨Nat.le_trans kk.size k9.size, fun x hx hs => by rw [k9.block x (Nat.lt_of_lt_of_le hx kk.size) (by omega), kk.block x hx hs], kk.same.trans k9.same⟩
end
end Go.Proofs.YtgcdhfpbmcfedaaGreatDoor.pf
end
section
set_option linter.unusedVariables false
set_option linter.unusedSimpArgs false
namespace Go.Proofs.YtgcdhfpbmcfedaaGreatDoor.pf
open Go.RowKit Go.Proofs.YtgcdhfpbmcfedaaGreatDoor.oc Go.Proofs.YtgcdhfpbmcfedaaGreatDoor.mz Go.Proofs.YtgcdhfpbmcfedaaGreatDoor.wh Go.Proofs.YtgcdhfpbmcfedaaGreatDoor.qk
theorem has_cut {p : Px} {a : Ad} (hp : p.a.Wf) (ha : a.Wf) (ho : okP p) (hoa : okA a) (hv : a.v6 = p.a.v6) (k : Nat) (hk : p.bits = (k : Int)) : (p.a.B = cut a.B k) ↔ has p a := by
  have hw := (wid_le p.a).1
  have hb := ho.2.1.2
  rw [← clr_cut]
  constructor
  · intro h
    have e : p.a = clr a k := Ad.eq_of hv.symm h
    refine ⟨ho, hoa, hv, fun i hi => ?_⟩
    rw [e, clr_bit ha _ _ (by omega), decide_eq_true (by omega)]; rfl
  · intro h
    have e : p.a = clr a k := Ad.ext_bit hp (clr_wf ha _) hv.symm fun i hi => by
      rw [clr_bit ha _ _ hi]
      by_cases c : i < k
      · rw [decide_eq_true c, ← h.2.2.2 i (by omega)]; rfl
      · rw [decide_eq_false c, okP_zero hp ho i (by omega) hi]; rfl
    exact congrArg Ad.B e
section
variable (w : World)
set_option maxRecDepth 100000 in
set_option maxHeartbeats 4000000 in
theorem phas_p (p : Px) (a : Ad) (hp : p.a.Wf) (ha : a.Wf) (ho : ¬ okP p) : Calls Tryz.prog 14 #[pv p, av a] w fun e w' => e = .returned (.bool (hasB p a)) ∧ ∀ S, Keeps S w w' := by
  obtain ⟨w1, hw1, k1, bP, bQ⟩ := box_two w (pxc p) (adc a) 28 24
  have HCP := fun w => Lib.hid (pcheck_ w p hp)
  have HCA := fun w => Lib.hid (pcheckaddr_ w a ha)
  have HSP := Lib.hid (px_sz hp)
  have HSA := Lib.hid (ad_sz ha)
  have HS0 := Lib.hid (b8_info hp.len)
  have HS1 := Lib.hid (b8_info ha.len)
  have HF := px_facts hp bP
  have HG := ad_facts bQ
  obtain ⟨E, hE⟩ : ∃ E, E = hasB p a := ⟨_, rfl⟩
  rw [errP_no ho] at HCP
  have HE : Hid (E = false) := Lib.hid (hE.trans (hasB_no (fun z => ho z.1)))
  rw [← hE]
  have HW := Lib.hid hw1
  have K1 : Hid (∀ S, Keeps S w w1) := Lib.hid k1
  unfold av at HCA
  unfold pv at HCP
  unfold pv av
  clear hE hw1 k1 bP bQ hp ha ho
  generalize b8s p.a.B = D0 at *
  generalize b8s a.B = D1 at *
  generalize adc p.a = C0 at *
  generalize adc a = CA at *
  generalize p.a.v6 = v0 at *
  generalize a.v6 = v1 at *
  generalize pxc p = CP at *
  go_enter Tryz.func14, Tryz.ntmps14
  go_wp2_with ((with_reducible show wpList _ _ _ (⟨some 5, _, _, _, _, _⟩ :: _) _ _); rw [← HW.out]; refine x_list (Old.refl w1) ?_)
  --@0
  refine x_load (by kernel_rfl) 28 _ rfl w.heap.size 0 rfl CP _ (fun wq hC => (HF wq hC).1) Tryz.underlying28 rfl HSP.out ?_
  try simp only [Act.put, Array.getInternal_eq_getElem, List.getElem_toArray, List.getElem_cons_zero, List.getElem_cons_succ, List.setIfInBounds_toArray, List.set_cons_zero, List.set_cons_succ]
  --@1
  refine x_call (by kernel_rfl) (fun wq hC => old_call hC (HCP wq).out) (fun wq => ?_) ?_
  · go_simp <;> (try (with_reducible rfl))
  try simp only [Act.put, Array.getInternal_eq_getElem, List.getElem_toArray, List.getElem_cons_zero, List.getElem_cons_succ, List.setIfInBounds_toArray, List.set_cons_zero, List.set_cons_succ]
  --@2
  refine x_any (by kernel_rfl) ?_ (fun wq hC => ?_) ?_
  rotate_left
  · (go_simp) <;> (try (with_reducible rfl))
  try simp only [Act.put, Array.getInternal_eq_getElem, List.getElem_toArray, List.getElem_cons_zero, List.getElem_cons_succ, List.setIfInBounds_toArray, List.set_cons_zero, List.set_cons_succ]
  --@3
  refine x_any (by kernel_rfl) ?_ (fun wq hC => ?_) ?_
  rotate_left
  · (go_simp) <;> (try (with_reducible rfl))
  try simp only [Act.put, Array.getInternal_eq_getElem, List.getElem_toArray, List.getElem_cons_zero, List.getElem_cons_succ, List.setIfInBounds_toArray, List.set_cons_zero, List.set_cons_succ]
  --@4
  refine x_skip (by kernel_rfl) ?_
  try simp only [Act.put, Array.getInternal_eq_getElem, List.getElem_toArray, List.getElem_cons_zero, List.getElem_cons_succ, List.setIfInBounds_toArray, List.set_cons_zero, List.set_cons_succ]
  --@5
  refine x_skip (by kernel_rfl) ?_
  try simp only [Act.put, Array.getInternal_eq_getElem, List.getElem_toArray, List.getElem_cons_zero, List.getElem_cons_succ, List.setIfInBounds_toArray, List.set_cons_zero, List.set_cons_succ]
  --@6
  refine x_skip (by kernel_rfl) ?_
  try simp only [Act.put, Array.getInternal_eq_getElem, List.getElem_toArray, List.getElem_cons_zero, List.getElem_cons_succ, List.setIfInBounds_toArray, List.set_cons_zero, List.set_cons_succ]
  --@7
  refine x_any (by kernel_rfl) ?_ (fun wq hC => ?_) ?_
  rotate_left
  · (go_simp) <;> (try (with_reducible rfl))
  try simp only [Act.put, Array.getInternal_eq_getElem, List.getElem_toArray, List.getElem_cons_zero, List.getElem_cons_succ, List.setIfInBounds_toArray, List.set_cons_zero, List.set_cons_succ]
  refine x_nil ?_
  intro wy kwy
  clear HCP HCA HF HG
  have KZ : Hid (∀ S, Keeps S w wy) := Lib.hid (fun S => (K1.out S).trans (kwy.all S))
  clear kwy
  go_wp2
  try rw [Exit.noGoto_ret]
  go_ret
  exact ⟨by rw [HE.out]; rfl, KZ.out⟩
set_option maxRecDepth 100000 in
set_option maxHeartbeats 4000000 in
theorem phas_a (p : Px) (a : Ad) (hp : p.a.Wf) (ha : a.Wf) (ho : okP p) (hoa : ¬ okA a) : Calls Tryz.prog 14 #[pv p, av a] w fun e w' => e = .returned (.bool (hasB p a)) ∧ ∀ S, Keeps S w w' := by
  obtain ⟨w1, hw1, k1, bP, bQ⟩ := box_two w (pxc p) (adc a) 28 24
  have HCP := fun w => Lib.hid (pcheck_ w p hp)
  have HCA := fun w => Lib.hid (pcheckaddr_ w a ha)
  have HSP := Lib.hid (px_sz hp)
  have HSA := Lib.hid (ad_sz ha)
  have HS0 := Lib.hid (b8_info hp.len)
  have HS1 := Lib.hid (b8_info ha.len)
  have HF := px_facts hp bP
  have HG := ad_facts bQ
  obtain ⟨E, hE⟩ : ∃ E, E = hasB p a := ⟨_, rfl⟩
  rw [errP_ok ho] at HCP
  rw [errA_no hoa] at HCA
  have HE : Hid (E = false) := Lib.hid (hE.trans (hasB_no (fun z => hoa z.2.1)))
  rw [← hE]
  have HW := Lib.hid hw1
  have K1 : Hid (∀ S, Keeps S w w1) := Lib.hid k1
  unfold av at HCA
  unfold pv at HCP
  unfold pv av
  clear hE hw1 k1 bP bQ hp ha ho hoa
  generalize b8s p.a.B = D0 at *
  generalize b8s a.B = D1 at *
  generalize adc p.a = C0 at *
  generalize adc a = CA at *
  generalize p.a.v6 = v0 at *
  generalize a.v6 = v1 at *
  generalize pxc p = CP at *
  go_enter Tryz.func14, Tryz.ntmps14
  go_wp2_with ((with_reducible show wpList _ _ _ (⟨some 5, _, _, _, _, _⟩ :: _) _ _); rw [← HW.out]; refine x_list (Old.refl w1) ?_)
  --@0
  refine x_load (by kernel_rfl) 28 _ rfl w.heap.size 0 rfl CP _ (fun wq hC => (HF wq hC).1) Tryz.underlying28 rfl HSP.out ?_
  try simp only [Act.put, Array.getInternal_eq_getElem, List.getElem_toArray, List.getElem_cons_zero, List.getElem_cons_succ, List.setIfInBounds_toArray, List.set_cons_zero, List.set_cons_succ]
  --@1
  refine x_call (by kernel_rfl) (fun wq hC => old_call hC (HCP wq).out) (fun wq => ?_) ?_
  · go_simp <;> (try (with_reducible rfl))
  try simp only [Act.put, Array.getInternal_eq_getElem, List.getElem_toArray, List.getElem_cons_zero, List.getElem_cons_succ, List.setIfInBounds_toArray, List.set_cons_zero, List.set_cons_succ]
  --@2
  refine x_any (by kernel_rfl) ?_ (fun wq hC => ?_) ?_
  rotate_left
  · (go_simp) <;> (try (with_reducible rfl))
  try simp only [Act.put, Array.getInternal_eq_getElem, List.getElem_toArray, List.getElem_cons_zero, List.getElem_cons_succ, List.setIfInBounds_toArray, List.set_cons_zero, List.set_cons_succ]
  --@3
  refine x_any (by kernel_rfl) ?_ (fun wq hC => ?_) ?_
  rotate_left
  · (go_simp) <;> (try (with_reducible rfl))
  try simp only [Act.put, Array.getInternal_eq_getElem, List.getElem_toArray, List.getElem_cons_zero, List.getElem_cons_succ, List.setIfInBounds_toArray, List.set_cons_zero, List.set_cons_succ]
  --@4
  refine x_load (by kernel_rfl) 24 _ rfl (w.heap.size + 1) 0 rfl CA _ (fun wq hC => (HG wq hC).1) Tryz.underlying24 rfl HSA.out ?_
  try simp only [Act.put, Array.getInternal_eq_getElem, List.getElem_toArray, List.getElem_cons_zero, List.getElem_cons_succ, List.setIfInBounds_toArray, List.set_cons_zero, List.set_cons_succ]
  --@5
  refine x_call (by kernel_rfl) (fun wq hC => old_call hC (HCA wq).out) (fun wq => ?_) ?_
  · go_simp <;> (try (with_reducible rfl))
  try simp only [Act.put, Array.getInternal_eq_getElem, List.getElem_toArray, List.getElem_cons_zero, List.getElem_cons_succ, List.setIfInBounds_toArray, List.set_cons_zero, List.set_cons_succ]
  --@6
  refine x_any (by kernel_rfl) ?_ (fun wq hC => ?_) ?_
  rotate_left
  · (go_simp) <;> (try (with_reducible rfl))
  try simp only [Act.put, Array.getInternal_eq_getElem, List.getElem_toArray, List.getElem_cons_zero, List.getElem_cons_succ, List.setIfInBounds_toArray, List.set_cons_zero, List.set_cons_succ]
  --@7
  refine x_any (by kernel_rfl) ?_ (fun wq hC => ?_) ?_
  rotate_left
  · (go_simp) <;> (try (with_reducible rfl))
  try simp only [Act.put, Array.getInternal_eq_getElem, List.getElem_toArray, List.getElem_cons_zero, List.getElem_cons_succ, List.setIfInBounds_toArray, List.set_cons_zero, List.set_cons_succ]
  refine x_nil ?_
  intro wy kwy
  clear HCP HCA HF HG
  have KZ : Hid (∀ S, Keeps S w wy) := Lib.hid (fun S => (K1.out S).trans (kwy.all S))
  clear kwy
  go_wp2
  try rw [Exit.noGoto_ret]
  go_ret
  exact ⟨by rw [HE.out]; rfl, KZ.out⟩
set_option maxRecDepth 100000 in
set_option maxHeartbeats 4000000 in
theorem phas_kind (p : Px) (a : Ad) (hp : p.a.Wf) (ha : a.Wf) (ho : okP p) (hoa : okA a) (hv : ¬ a.v6 = p.a.v6) : Calls Tryz.prog 14 #[pv p, av a] w fun e w' => e = .returned (.bool (hasB p a)) ∧ ∀ S, Keeps S w w' := by
  obtain ⟨w1, hw1, k1, bP, bQ⟩ := box_two w (pxc p) (adc a) 28 24
  have HCP := fun w => Lib.hid (pcheck_ w p hp)
  have HCA := fun w => Lib.hid (pcheckaddr_ w a ha)
  have HSP := Lib.hid (px_sz hp)
  have HSA := Lib.hid (ad_sz ha)
  have HS0 := Lib.hid (b8_info hp.len)
  have HS1 := Lib.hid (b8_info ha.len)
  have HF := px_facts hp bP
  have HG := ad_facts bQ
  obtain ⟨E, hE⟩ : ∃ E, E = hasB p a := ⟨_, rfl⟩
  rw [errP_ok ho] at HCP
  rw [errA_ok hoa] at HCA
  have HE : Hid (E = false) := Lib.hid (hE.trans (hasB_no (fun z => hv z.2.2.1)))
  have hve : (p.a.v6 == a.v6) = false := by rw [beq_eq_false_iff_ne]; exact fun z => hv z.symm
  rw [← hE]
  have HW := Lib.hid hw1
  have K1 : Hid (∀ S, Keeps S w w1) := Lib.hid k1
  unfold av at HCA
  unfold pv at HCP
  unfold pv av
  clear hE hw1 k1 bP bQ hp ha ho hoa hv
  generalize b8s p.a.B = D0 at *
  generalize b8s a.B = D1 at *
  generalize adc p.a = C0 at *
  generalize adc a = CA at *
  generalize p.a.v6 = v0 at *
  generalize a.v6 = v1 at *
  generalize pxc p = CP at *
  go_enter Tryz.func14, Tryz.ntmps14
  go_wp2_with ((with_reducible show wpList _ _ _ (⟨some 5, _, _, _, _, _⟩ :: _) _ _); rw [← HW.out]; refine x_list (Old.refl w1) ?_)
  --@0
  refine x_load (by kernel_rfl) 28 _ rfl w.heap.size 0 rfl CP _ (fun wq hC => (HF wq hC).1) Tryz.underlying28 rfl HSP.out ?_
  try simp only [Act.put, Array.getInternal_eq_getElem, List.getElem_toArray, List.getElem_cons_zero, List.getElem_cons_succ, List.setIfInBounds_toArray, List.set_cons_zero, List.set_cons_succ]
  --@1
  refine x_call (by kernel_rfl) (fun wq hC => old_call hC (HCP wq).out) (fun wq => ?_) ?_
  · go_simp <;> (try (with_reducible rfl))
  try simp only [Act.put, Array.getInternal_eq_getElem, List.getElem_toArray, List.getElem_cons_zero, List.getElem_cons_succ, List.setIfInBounds_toArray, List.set_cons_zero, List.set_cons_succ]
  --@2
  refine x_any (by kernel_rfl) ?_ (fun wq hC => ?_) ?_
  rotate_left
  · (go_simp) <;> (try (with_reducible rfl))
  try simp only [Act.put, Array.getInternal_eq_getElem, List.getElem_toArray, List.getElem_cons_zero, List.getElem_cons_succ, List.setIfInBounds_toArray, List.set_cons_zero, List.set_cons_succ]
  --@3
  refine x_any (by kernel_rfl) ?_ (fun wq hC => ?_) ?_
  rotate_left
  · (go_simp) <;> (try (with_reducible rfl))
  try simp only [Act.put, Array.getInternal_eq_getElem, List.getElem_toArray, List.getElem_cons_zero, List.getElem_cons_succ, List.setIfInBounds_toArray, List.set_cons_zero, List.set_cons_succ]
  --@4
  refine x_load (by kernel_rfl) 24 _ rfl (w.heap.size + 1) 0 rfl CA _ (fun wq hC => (HG wq hC).1) Tryz.underlying24 rfl HSA.out ?_
  try simp only [Act.put, Array.getInternal_eq_getElem, List.getElem_toArray, List.getElem_cons_zero, List.getElem_cons_succ, List.setIfInBounds_toArray, List.set_cons_zero, List.set_cons_succ]
  --@5
  refine x_call (by kernel_rfl) (fun wq hC => old_call hC (HCA wq).out) (fun wq => ?_) ?_
  · go_simp <;> (try (with_reducible rfl))
  try simp only [Act.put, Array.getInternal_eq_getElem, List.getElem_toArray, List.getElem_cons_zero, List.getElem_cons_succ, List.setIfInBounds_toArray, List.set_cons_zero, List.set_cons_succ]
  --@6
  refine x_any (by kernel_rfl) ?_ (fun wq hC => ?_) ?_
  rotate_left
  · (go_simp) <;> (try (with_reducible rfl))
  try simp only [Act.put, Array.getInternal_eq_getElem, List.getElem_toArray, List.getElem_cons_zero, List.getElem_cons_succ, List.setIfInBounds_toArray, List.set_cons_zero, List.set_cons_succ]
  --@7
  refine x_any (by kernel_rfl) ?_ (fun wq hC => ?_) ?_
  rotate_left
  · (go_simp) <;> (try (with_reducible rfl))
  try simp only [Act.put, Array.getInternal_eq_getElem, List.getElem_toArray, List.getElem_cons_zero, List.getElem_cons_succ, List.setIfInBounds_toArray, List.set_cons_zero, List.set_cons_succ]
  refine x_nil ?_
  intro wy kwy
  go_wp2_with fail
  refine q_region (by kernel_rfl) (by kernel_rfl) kwy ?_
  --@0
  refine q_any (by kernel_rfl) ?_ (fun wq hC => ?_) ?_
  rotate_left
  · (go_simp) <;> (try (with_reducible rfl))
  try simp only [Act.put, Array.getInternal_eq_getElem, List.getElem_toArray, List.getElem_cons_zero, List.getElem_cons_succ, List.setIfInBounds_toArray, List.set_cons_zero, List.set_cons_succ]
  --@1
  refine q_any (by kernel_rfl) ?_ (fun wq hC => ?_) ?_
  rotate_left
  · (go_simp) <;> (try (with_reducible rfl))
  try simp only [Act.put, Array.getInternal_eq_getElem, List.getElem_toArray, List.getElem_cons_zero, List.getElem_cons_succ, List.setIfInBounds_toArray, List.set_cons_zero, List.set_cons_succ]
  --@2
  refine q_any (by kernel_rfl) ?_ (fun wq hC => ?_) ?_
  rotate_left
  · (have hF := (HF wq hC); (try dsimp only at hF); go_simp) <;> (try (with_reducible rfl))
  try simp only [Act.put, Array.getInternal_eq_getElem, List.getElem_toArray, List.getElem_cons_zero, List.getElem_cons_succ, List.setIfInBounds_toArray, List.set_cons_zero, List.set_cons_succ]
  --@3
  refine q_any (by kernel_rfl) ?_ (fun wq hC => ?_) ?_
  rotate_left
  · (go_simp) <;> (try (with_reducible rfl))
  try simp only [Act.put, Array.getInternal_eq_getElem, List.getElem_toArray, List.getElem_cons_zero, List.getElem_cons_succ, List.setIfInBounds_toArray, List.set_cons_zero, List.set_cons_succ]
  --@4
  refine q_any (by kernel_rfl) ?_ (fun wq hC => ?_) ?_
  rotate_left
  · (have hF := (HG wq hC); (try dsimp only at hF); go_simp) <;> (try (with_reducible rfl))
  try simp only [Act.put, Array.getInternal_eq_getElem, List.getElem_toArray, List.getElem_cons_zero, List.getElem_cons_succ, List.setIfInBounds_toArray, List.set_cons_zero, List.set_cons_succ]
  --@5
  refine q_any (by kernel_rfl) ?_ (fun wq hC => ?_) ?_
  rotate_left
  · (go_simp) <;> (try (with_reducible rfl))
  try simp only [Act.put, Array.getInternal_eq_getElem, List.getElem_toArray, List.getElem_cons_zero, List.getElem_cons_succ, List.setIfInBounds_toArray, List.set_cons_zero, List.set_cons_succ]
  --@6
  refine q_any (by kernel_rfl) ?_ (fun wq hC => ?_) ?_
  rotate_left
  · (go_simp) <;> (try (with_reducible rfl))
  try simp only [Act.put, Array.getInternal_eq_getElem, List.getElem_toArray, List.getElem_cons_zero, List.getElem_cons_succ, List.setIfInBounds_toArray, List.set_cons_zero, List.set_cons_succ]
  --@7
  refine q_skip (by kernel_rfl) ?_
  try simp only [Act.put, Array.getInternal_eq_getElem, List.getElem_toArray, List.getElem_cons_zero, List.getElem_cons_succ, List.setIfInBounds_toArray, List.set_cons_zero, List.set_cons_succ]
  --@8
  refine q_skip (by kernel_rfl) ?_
  try simp only [Act.put, Array.getInternal_eq_getElem, List.getElem_toArray, List.getElem_cons_zero, List.getElem_cons_succ, List.setIfInBounds_toArray, List.set_cons_zero, List.set_cons_succ]
  --@9
  refine q_skip (by kernel_rfl) ?_
  try simp only [Act.put, Array.getInternal_eq_getElem, List.getElem_toArray, List.getElem_cons_zero, List.getElem_cons_succ, List.setIfInBounds_toArray, List.set_cons_zero, List.set_cons_succ]
  --@10
  refine q_skip (by kernel_rfl) ?_
  try simp only [Act.put, Array.getInternal_eq_getElem, List.getElem_toArray, List.getElem_cons_zero, List.getElem_cons_succ, List.setIfInBounds_toArray, List.set_cons_zero, List.set_cons_succ]
  --@11
  refine q_skip (by kernel_rfl) ?_
  try simp only [Act.put, Array.getInternal_eq_getElem, List.getElem_toArray, List.getElem_cons_zero, List.getElem_cons_succ, List.setIfInBounds_toArray, List.set_cons_zero, List.set_cons_succ]
  --@12
  refine q_skip (by kernel_rfl) ?_
  try simp only [Act.put, Array.getInternal_eq_getElem, List.getElem_toArray, List.getElem_cons_zero, List.getElem_cons_succ, List.setIfInBounds_toArray, List.set_cons_zero, List.set_cons_succ]
  --@13
  refine q_skip (by kernel_rfl) ?_
  try simp only [Act.put, Array.getInternal_eq_getElem, List.getElem_toArray, List.getElem_cons_zero, List.getElem_cons_succ, List.setIfInBounds_toArray, List.set_cons_zero, List.set_cons_succ]
  --@14
  refine q_skip (by kernel_rfl) ?_
  try simp only [Act.put, Array.getInternal_eq_getElem, List.getElem_toArray, List.getElem_cons_zero, List.getElem_cons_succ, List.setIfInBounds_toArray, List.set_cons_zero, List.set_cons_succ]
  --@15
  refine q_skip (by kernel_rfl) ?_
  try simp only [Act.put, Array.getInternal_eq_getElem, List.getElem_toArray, List.getElem_cons_zero, List.getElem_cons_succ, List.setIfInBounds_toArray, List.set_cons_zero, List.set_cons_succ]
  --@16
  refine q_any (by kernel_rfl) ?_ (fun wq hC => ?_) ?_
  rotate_left
  · (go_simp) <;> (try (with_reducible rfl))
  try simp only [Act.put, Array.getInternal_eq_getElem, List.getElem_toArray, List.getElem_cons_zero, List.getElem_cons_succ, List.setIfInBounds_toArray, List.set_cons_zero, List.set_cons_succ]
  --@17
  refine q_any (by kernel_rfl) ?_ (fun wq hC => ?_) ?_
  rotate_left
  · (go_simp) <;> (try (with_reducible rfl))
  try simp only [Act.put, Array.getInternal_eq_getElem, List.getElem_toArray, List.getElem_cons_zero, List.getElem_cons_succ, List.setIfInBounds_toArray, List.set_cons_zero, List.set_cons_succ]
  refine q_nil ?_
  intro wz kwz
  clear HCP HCA HF HG
  have KZ : Hid (∀ S, Keeps S w wz) := Lib.hid (fun S => (K1.out S).trans (kwz.all S))
  clear kwz kwy
  go_wp2
  try rw [Exit.noGoto_ret]
  go_ret
  exact ⟨by rw [HE.out]; rfl, KZ.out⟩
set_option maxRecDepth 100000 in
set_option maxHeartbeats 4000000 in
theorem phas_in (p : Px) (a : Ad) (hp : p.a.Wf) (ha : a.Wf) (ho : okP p) (hoa : okA a) (hv : a.v6 = p.a.v6) (k : Nat) (hk : p.bits = (k : Int)) : Calls Tryz.prog 14 #[pv p, av a] w fun e w' => e = .returned (.bool (hasB p a)) ∧ ∀ S, Keeps S w w' := by
  obtain ⟨w1, hw1, k1, bP, bQ⟩ := box_two w (pxc p) (adc a) 28 24
  have HCP := fun w => Lib.hid (pcheck_ w p hp)
  have HCA := fun w => Lib.hid (pcheckaddr_ w a ha)
  have HSP := Lib.hid (px_sz hp)
  have HSA := Lib.hid (ad_sz ha)
  have HS0 := Lib.hid (b8_info hp.len)
  have HS1 := Lib.hid (b8_info ha.len)
  have HF := px_facts hp bP
  have HG := ad_facts bQ
  obtain ⟨E, hE⟩ : ∃ E, E = hasB p a := ⟨_, rfl⟩
  rw [errP_ok ho] at HCP
  rw [errA_ok hoa] at HCA
  have HCF := fun w => Lib.hid (first_ w a.B k ha.len ha.sm (by have := ho.2.1.2; have := (wid_le p.a).1; omega))
  have HN := fun w => Lib.hid (b8_equ p.a.B (cut a.B k) hp.len ((cut_len _ _).trans ha.len) w)
  obtain ⟨r, hr⟩ : ∃ r : Bool, r = (p.a.B == cut a.B k) := ⟨_, rfl⟩
  have HE : Hid (E = r) := Lib.hid (by
    have hq := has_cut hp ha ho hoa hv k hk
    rw [hr, hE]
    by_cases h : p.a.B = cut a.B k
    · rw [hasB_yes (hq.1 h)]; simpa using h
    · rw [hasB_no (fun z => h (hq.2 z))]; simpa using h)
  rw [← hr] at HN
  rw [hk] at HF
  have hve : (p.a.v6 == a.v6) = true := by rw [hv]; simp
  generalize b8s (cut a.B k) = D2 at *
  clear hr hk
  rw [← hE]
  have HW := Lib.hid hw1
  have K1 : Hid (∀ S, Keeps S w w1) := Lib.hid k1
  unfold av at HCA
  unfold pv at HCP
  unfold pv av
  clear hE hw1 k1 bP bQ hp ha ho hoa hv
  generalize b8s p.a.B = D0 at *
  generalize b8s a.B = D1 at *
  generalize adc p.a = C0 at *
  generalize adc a = CA at *
  generalize p.a.v6 = v0 at *
  generalize a.v6 = v1 at *
  generalize pxc p = CP at *
  go_enter Tryz.func14, Tryz.ntmps14
  go_wp2_with ((with_reducible show wpList _ _ _ (⟨some 5, _, _, _, _, _⟩ :: _) _ _); rw [← HW.out]; refine x_list (Old.refl w1) ?_)
  --@0
  refine x_load (by kernel_rfl) 28 _ rfl w.heap.size 0 rfl CP _ (fun wq hC => (HF wq hC).1) Tryz.underlying28 rfl HSP.out ?_
  try simp only [Act.put, Array.getInternal_eq_getElem, List.getElem_toArray, List.getElem_cons_zero, List.getElem_cons_succ, List.setIfInBounds_toArray, List.set_cons_zero, List.set_cons_succ]
  --@1
  refine x_call (by kernel_rfl) (fun wq hC => old_call hC (HCP wq).out) (fun wq => ?_) ?_
  · go_simp <;> (try (with_reducible rfl))
  try simp only [Act.put, Array.getInternal_eq_getElem, List.getElem_toArray, List.getElem_cons_zero, List.getElem_cons_succ, List.setIfInBounds_toArray, List.set_cons_zero, List.set_cons_succ]
  --@2
  refine x_any (by kernel_rfl) ?_ (fun wq hC => ?_) ?_
  rotate_left
  · (go_simp) <;> (try (with_reducible rfl))
  try simp only [Act.put, Array.getInternal_eq_getElem, List.getElem_toArray, List.getElem_cons_zero, List.getElem_cons_succ, List.setIfInBounds_toArray, List.set_cons_zero, List.set_cons_succ]
  --@3
  refine x_any (by kernel_rfl) ?_ (fun wq hC => ?_) ?_
  rotate_left
  · (go_simp) <;> (try (with_reducible rfl))
  try simp only [Act.put, Array.getInternal_eq_getElem, List.getElem_toArray, List.getElem_cons_zero, List.getElem_cons_succ, List.setIfInBounds_toArray, List.set_cons_zero, List.set_cons_succ]
  --@4
  refine x_load (by kernel_rfl) 24 _ rfl (w.heap.size + 1) 0 rfl CA _ (fun wq hC => (HG wq hC).1) Tryz.underlying24 rfl HSA.out ?_
  try simp only [Act.put, Array.getInternal_eq_getElem, List.getElem_toArray, List.getElem_cons_zero, List.getElem_cons_succ, List.setIfInBounds_toArray, List.set_cons_zero, List.set_cons_succ]
  --@5
  refine x_call (by kernel_rfl) (fun wq hC => old_call hC (HCA wq).out) (fun wq => ?_) ?_
  · go_simp <;> (try (with_reducible rfl))
  try simp only [Act.put, Array.getInternal_eq_getElem, List.getElem_toArray, List.getElem_cons_zero, List.getElem_cons_succ, List.setIfInBounds_toArray, List.set_cons_zero, List.set_cons_succ]
  --@6
  refine x_any (by kernel_rfl) ?_ (fun wq hC => ?_) ?_
  rotate_left
  · (go_simp) <;> (try (with_reducible rfl))
  try simp only [Act.put, Array.getInternal_eq_getElem, List.getElem_toArray, List.getElem_cons_zero, List.getElem_cons_succ, List.setIfInBounds_toArray, List.set_cons_zero, List.set_cons_succ]
  --@7
  refine x_any (by kernel_rfl) ?_ (fun wq hC => ?_) ?_
  rotate_left
  · (go_simp) <;> (try (with_reducible rfl))
  try simp only [Act.put, Array.getInternal_eq_getElem, List.getElem_toArray, List.getElem_cons_zero, List.getElem_cons_succ, List.setIfInBounds_toArray, List.set_cons_zero, List.set_cons_succ]
  refine x_nil ?_
  intro wy kwy
  go_wp2_with fail
  refine q_region (by kernel_rfl) (by kernel_rfl) kwy ?_
  --@0
  refine q_any (by kernel_rfl) ?_ (fun wq hC => ?_) ?_
  rotate_left
  · (go_simp) <;> (try (with_reducible rfl))
  try simp only [Act.put, Array.getInternal_eq_getElem, List.getElem_toArray, List.getElem_cons_zero, List.getElem_cons_succ, List.setIfInBounds_toArray, List.set_cons_zero, List.set_cons_succ]
  --@1
  refine q_any (by kernel_rfl) ?_ (fun wq hC => ?_) ?_
  rotate_left
  · (go_simp) <;> (try (with_reducible rfl))
  try simp only [Act.put, Array.getInternal_eq_getElem, List.getElem_toArray, List.getElem_cons_zero, List.getElem_cons_succ, List.setIfInBounds_toArray, List.set_cons_zero, List.set_cons_succ]
  --@2
  refine q_any (by kernel_rfl) ?_ (fun wq hC => ?_) ?_
  rotate_left
  · (have hF := (HF wq hC); (try dsimp only at hF); go_simp) <;> (try (with_reducible rfl))
  try simp only [Act.put, Array.getInternal_eq_getElem, List.getElem_toArray, List.getElem_cons_zero, List.getElem_cons_succ, List.setIfInBounds_toArray, List.set_cons_zero, List.set_cons_succ]
  --@3
  refine q_any (by kernel_rfl) ?_ (fun wq hC => ?_) ?_
  rotate_left
  · (go_simp) <;> (try (with_reducible rfl))
  try simp only [Act.put, Array.getInternal_eq_getElem, List.getElem_toArray, List.getElem_cons_zero, List.getElem_cons_succ, List.setIfInBounds_toArray, List.set_cons_zero, List.set_cons_succ]
  --@4
  refine q_any (by kernel_rfl) ?_ (fun wq hC => ?_) ?_
  rotate_left
  · (have hF := (HG wq hC); (try dsimp only at hF); go_simp) <;> (try (with_reducible rfl))
  try simp only [Act.put, Array.getInternal_eq_getElem, List.getElem_toArray, List.getElem_cons_zero, List.getElem_cons_succ, List.setIfInBounds_toArray, List.set_cons_zero, List.set_cons_succ]
  --@5
  refine q_any (by kernel_rfl) ?_ (fun wq hC => ?_) ?_
  rotate_left
  · (go_simp) <;> (try (with_reducible rfl))
  try simp only [Act.put, Array.getInternal_eq_getElem, List.getElem_toArray, List.getElem_cons_zero, List.getElem_cons_succ, List.setIfInBounds_toArray, List.set_cons_zero, List.set_cons_succ]
  --@6
  refine q_any (by kernel_rfl) ?_ (fun wq hC => ?_) ?_
  rotate_left
  · (go_simp) <;> (try (with_reducible rfl))
  try simp only [Act.put, Array.getInternal_eq_getElem, List.getElem_toArray, List.getElem_cons_zero, List.getElem_cons_succ, List.setIfInBounds_toArray, List.set_cons_zero, List.set_cons_succ]
  --@7
  refine q_any (by kernel_rfl) ?_ (fun wq hC => ?_) ?_
  rotate_left
  · (go_simp) <;> (try (with_reducible rfl))
  try simp only [Act.put, Array.getInternal_eq_getElem, List.getElem_toArray, List.getElem_cons_zero, List.getElem_cons_succ, List.setIfInBounds_toArray, List.set_cons_zero, List.set_cons_succ]
  --@8
  refine q_any (by kernel_rfl) ?_ (fun wq hC => ?_) ?_
  rotate_left
  · (go_simp) <;> (try (with_reducible rfl))
  try simp only [Act.put, Array.getInternal_eq_getElem, List.getElem_toArray, List.getElem_cons_zero, List.getElem_cons_succ, List.setIfInBounds_toArray, List.set_cons_zero, List.set_cons_succ]
  --@9
  refine q_load (by kernel_rfl) 22 _ rfl w.heap.size 1 rfl D0 _ (fun wq hC => (HF wq hC).2.2.1) Tryz.underlying22 rfl HS0.out ?_
  try simp only [Act.put, Array.getInternal_eq_getElem, List.getElem_toArray, List.getElem_cons_zero, List.getElem_cons_succ, List.setIfInBounds_toArray, List.set_cons_zero, List.set_cons_succ]
  --@10
  refine q_any (by kernel_rfl) ?_ (fun wq hC => ?_) ?_
  rotate_left
  · (go_simp) <;> (try (with_reducible rfl))
  try simp only [Act.put, Array.getInternal_eq_getElem, List.getElem_toArray, List.getElem_cons_zero, List.getElem_cons_succ, List.setIfInBounds_toArray, List.set_cons_zero, List.set_cons_succ]
  --@11
  refine q_load (by kernel_rfl) 22 _ rfl (w.heap.size + 1) 1 rfl D1 _ (fun wq hC => (HG wq hC).2.1) Tryz.underlying22 rfl HS1.out ?_
  try simp only [Act.put, Array.getInternal_eq_getElem, List.getElem_toArray, List.getElem_cons_zero, List.getElem_cons_succ, List.setIfInBounds_toArray, List.set_cons_zero, List.set_cons_succ]
  --@12
  refine q_any (by kernel_rfl) ?_ (fun wq hC => ?_) ?_
  rotate_left
  · (go_simp) <;> (try (with_reducible rfl))
  try simp only [Act.put, Array.getInternal_eq_getElem, List.getElem_toArray, List.getElem_cons_zero, List.getElem_cons_succ, List.setIfInBounds_toArray, List.set_cons_zero, List.set_cons_succ]
  --@13
  refine q_any (by kernel_rfl) ?_ (fun wq hC => ?_) ?_
  rotate_left
  · (have hF := (HF wq hC); (try dsimp only at hF); go_simp) <;> (try (with_reducible rfl))
  try simp only [Act.put, Array.getInternal_eq_getElem, List.getElem_toArray, List.getElem_cons_zero, List.getElem_cons_succ, List.setIfInBounds_toArray, List.set_cons_zero, List.set_cons_succ]
  --@14
  refine q_call (by kernel_rfl) (fun wq hC => old_call hC (HCF wq).out) (fun wq => ?_) ?_
  · go_simp <;> (try (with_reducible rfl))
  try simp only [Act.put, Array.getInternal_eq_getElem, List.getElem_toArray, List.getElem_cons_zero, List.getElem_cons_succ, List.setIfInBounds_toArray, List.set_cons_zero, List.set_cons_succ]
  --@15
  refine q_any (by kernel_rfl) ?_ (fun wq hC => ?_) ?_
  rotate_left
  · (have hN := (HN wq).out; go_simp) <;> (try (with_reducible rfl))
  try simp only [Act.put, Array.getInternal_eq_getElem, List.getElem_toArray, List.getElem_cons_zero, List.getElem_cons_succ, List.setIfInBounds_toArray, List.set_cons_zero, List.set_cons_succ]
  --@16
  refine q_any (by kernel_rfl) ?_ (fun wq hC => ?_) ?_
  rotate_left
  · (go_simp) <;> (try (with_reducible rfl))
  try simp only [Act.put, Array.getInternal_eq_getElem, List.getElem_toArray, List.getElem_cons_zero, List.getElem_cons_succ, List.setIfInBounds_toArray, List.set_cons_zero, List.set_cons_succ]
  --@17
  refine q_any (by kernel_rfl) ?_ (fun wq hC => ?_) ?_
  rotate_left
  · (go_simp) <;> (try (with_reducible rfl))
  try simp only [Act.put, Array.getInternal_eq_getElem, List.getElem_toArray, List.getElem_cons_zero, List.getElem_cons_succ, List.setIfInBounds_toArray, List.set_cons_zero, List.set_cons_succ]
  refine q_nil ?_
  intro wz kwz
  clear HCP HCA HF HG
  have KZ : Hid (∀ S, Keeps S w wz) := Lib.hid (fun S => (K1.out S).trans (kwz.all S))
  clear kwz kwy
  go_wp2
  try rw [Exit.noGoto_ret]
  go_ret
  exact ⟨by rw [HE.out]; rfl, KZ.out⟩
theorem phas_ (p : Px) (a : Ad) (hp : p.a.Wf) (ha : a.Wf) : Calls Tryz.prog 14 #[pv p, av a] w fun e w' => e = .returned (.bool (hasB p a)) ∧ ∀ S, Keeps S w w' := by
  by_cases ho : okP p
  · by_cases hoa : okA a
    · by_cases hv : a.v6 = p.a.v6
      · exact phas_in w p a hp ha ho hoa hv p.bits.toNat (by have := ho.2.1.1; omega)
      · exact phas_kind w p a hp ha ho hoa hv
    · exact phas_a w p a hp ha ho hoa
  · exact phas_p w p a hp ha ho
set_option maxRecDepth 100000 in
set_option maxHeartbeats 4000000 in
theorem pcovers_q (p q : Px) (hp : p.a.Wf) (hq : q.a.Wf) (ho : ¬ okP q) : Calls Tryz.prog 15 #[pv p, pv q] w fun e w' => e = .returned (.bool (coversB p q)) ∧ ∀ S, Keeps S w w' := by
  obtain ⟨w1, hw1, k1, bP, bQ⟩ := box_two w (pxc p) (pxc q) 28 28
  have HCQ := fun w => Lib.hid (pcheck_ w q hq)
  have HCH := fun w => Lib.hid (phas_ w p q.a hp hq)
  have HSP := Lib.hid (px_sz hp)
  have HSQ := Lib.hid (px_sz hq)
  have HSA := Lib.hid (ad_sz hq)
  have HF := px_facts hp bP
  have HG := px_facts hq bQ
  rw [errP_no ho] at HCQ
  rw [coversB_no (fun z => ho z.1)]
  have HW := Lib.hid hw1
  have K1 : Hid (∀ S, Keeps S w w1) := Lib.hid k1
  unfold pv av at HCH
  unfold pv at HCQ ⊢
  clear hw1 k1 bP bQ hp hq ho
  generalize hasB p q.a = r at *
  generalize p.bits = i0 at *
  generalize q.bits = i1 at *
  skip
  generalize b8s p.a.B = D0 at *
  generalize b8s q.a.B = D1 at *
  generalize adc p.a = C0 at *
  generalize adc q.a = CA at *
  generalize pxc p = CP at *
  generalize pxc q = CQ at *
  go_enter Tryz.func15, Tryz.ntmps15
  go_wp2_with ((with_reducible show wpList _ _ _ (⟨some 5, _, _, _, _, _⟩ :: _) _ _); rw [← HW.out]; refine x_list (Old.refl w1) ?_)
  --@0
  refine x_load (by kernel_rfl) 28 _ rfl (w.heap.size + 1) 0 rfl CQ _ (fun wq hC => (HG wq hC).1) Tryz.underlying28 rfl HSQ.out ?_
  try simp only [Act.put, Array.getInternal_eq_getElem, List.getElem_toArray, List.getElem_cons_zero, List.getElem_cons_succ, List.setIfInBounds_toArray, List.set_cons_zero, List.set_cons_succ]
  --@1
  refine x_call (by kernel_rfl) (fun wq hC => old_call hC (HCQ wq).out) (fun wq => ?_) ?_
  · go_simp <;> (try (with_reducible rfl))
  try simp only [Act.put, Array.getInternal_eq_getElem, List.getElem_toArray, List.getElem_cons_zero, List.getElem_cons_succ, List.setIfInBounds_toArray, List.set_cons_zero, List.set_cons_succ]
  --@2
  refine x_any (by kernel_rfl) ?_ (fun wq hC => ?_) ?_
  rotate_left
  · (go_simp) <;> (try (with_reducible rfl))
  try simp only [Act.put, Array.getInternal_eq_getElem, List.getElem_toArray, List.getElem_cons_zero, List.getElem_cons_succ, List.setIfInBounds_toArray, List.set_cons_zero, List.set_cons_succ]
  --@3
  refine x_any (by kernel_rfl) ?_ (fun wq hC => ?_) ?_
  rotate_left
  · (go_simp) <;> (try (with_reducible rfl))
  try simp only [Act.put, Array.getInternal_eq_getElem, List.getElem_toArray, List.getElem_cons_zero, List.getElem_cons_succ, List.setIfInBounds_toArray, List.set_cons_zero, List.set_cons_succ]
  --@4
  refine x_skip (by kernel_rfl) ?_
  try simp only [Act.put, Array.getInternal_eq_getElem, List.getElem_toArray, List.getElem_cons_zero, List.getElem_cons_succ, List.setIfInBounds_toArray, List.set_cons_zero, List.set_cons_succ]
  --@5
  refine x_skip (by kernel_rfl) ?_
  try simp only [Act.put, Array.getInternal_eq_getElem, List.getElem_toArray, List.getElem_cons_zero, List.getElem_cons_succ, List.setIfInBounds_toArray, List.set_cons_zero, List.set_cons_succ]
  --@6
  refine x_skip (by kernel_rfl) ?_
  try simp only [Act.put, Array.getInternal_eq_getElem, List.getElem_toArray, List.getElem_cons_zero, List.getElem_cons_succ, List.setIfInBounds_toArray, List.set_cons_zero, List.set_cons_succ]
  --@7
  refine x_skip (by kernel_rfl) ?_
  try simp only [Act.put, Array.getInternal_eq_getElem, List.getElem_toArray, List.getElem_cons_zero, List.getElem_cons_succ, List.setIfInBounds_toArray, List.set_cons_zero, List.set_cons_succ]
  --@8
  refine x_skip (by kernel_rfl) ?_
  try simp only [Act.put, Array.getInternal_eq_getElem, List.getElem_toArray, List.getElem_cons_zero, List.getElem_cons_succ, List.setIfInBounds_toArray, List.set_cons_zero, List.set_cons_succ]
  --@9
  refine x_any (by kernel_rfl) ?_ (fun wq hC => ?_) ?_
  rotate_left
  · (go_simp) <;> (try (with_reducible rfl))
  try simp only [Act.put, Array.getInternal_eq_getElem, List.getElem_toArray, List.getElem_cons_zero, List.getElem_cons_succ, List.setIfInBounds_toArray, List.set_cons_zero, List.set_cons_succ]
  --@10
  refine x_any (by kernel_rfl) ?_ (fun wq hC => ?_) ?_
  rotate_left
  · (go_simp) <;> (try (with_reducible rfl))
  try simp only [Act.put, Array.getInternal_eq_getElem, List.getElem_toArray, List.getElem_cons_zero, List.getElem_cons_succ, List.setIfInBounds_toArray, List.set_cons_zero, List.set_cons_succ]
  --@11
  refine x_skip (by kernel_rfl) ?_
  try simp only [Act.put, Array.getInternal_eq_getElem, List.getElem_toArray, List.getElem_cons_zero, List.getElem_cons_succ, List.setIfInBounds_toArray, List.set_cons_zero, List.set_cons_succ]
  --@12
  refine x_skip (by kernel_rfl) ?_
  try simp only [Act.put, Array.getInternal_eq_getElem, List.getElem_toArray, List.getElem_cons_zero, List.getElem_cons_succ, List.setIfInBounds_toArray, List.set_cons_zero, List.set_cons_succ]
  --@13
  refine x_skip (by kernel_rfl) ?_
  try simp only [Act.put, Array.getInternal_eq_getElem, List.getElem_toArray, List.getElem_cons_zero, List.getElem_cons_succ, List.setIfInBounds_toArray, List.set_cons_zero, List.set_cons_succ]
  --@14
  refine x_skip (by kernel_rfl) ?_
  try simp only [Act.put, Array.getInternal_eq_getElem, List.getElem_toArray, List.getElem_cons_zero, List.getElem_cons_succ, List.setIfInBounds_toArray, List.set_cons_zero, List.set_cons_succ]
  --@15
  refine x_any (by kernel_rfl) ?_ (fun wq hC => ?_) ?_
  rotate_left
  · (go_simp) <;> (try (with_reducible rfl))
  try simp only [Act.put, Array.getInternal_eq_getElem, List.getElem_toArray, List.getElem_cons_zero, List.getElem_cons_succ, List.setIfInBounds_toArray, List.set_cons_zero, List.set_cons_succ]
  --@16
  refine x_any (by kernel_rfl) ?_ (fun wq hC => ?_) ?_
  rotate_left
  · (go_simp) <;> (try (with_reducible rfl))
  try simp only [Act.put, Array.getInternal_eq_getElem, List.getElem_toArray, List.getElem_cons_zero, List.getElem_cons_succ, List.setIfInBounds_toArray, List.set_cons_zero, List.set_cons_succ]
  refine x_nil ?_
  intro wz kwz
  clear HCQ HCH HF HG
  have KZ : Hid (∀ S, Keeps S w wz) := Lib.hid (fun S => (K1.out S).trans (kwz.all S))
  clear kwz
  go_wp2
  try rw [Exit.noGoto_ret]
  go_ret
  exact ⟨rfl, KZ.out⟩
set_option maxRecDepth 100000 in
set_option maxHeartbeats 4000000 in
theorem pcovers_few (p q : Px) (hp : p.a.Wf) (hq : q.a.Wf) (ho : okP q) (hb : ¬ p.bits ≤ q.bits) : Calls Tryz.prog 15 #[pv p, pv q] w fun e w' => e = .returned (.bool (coversB p q)) ∧ ∀ S, Keeps S w w' := by
  obtain ⟨w1, hw1, k1, bP, bQ⟩ := box_two w (pxc p) (pxc q) 28 28
  have HCQ := fun w => Lib.hid (pcheck_ w q hq)
  have HCH := fun w => Lib.hid (phas_ w p q.a hp hq)
  have HSP := Lib.hid (px_sz hp)
  have HSQ := Lib.hid (px_sz hq)
  have HSA := Lib.hid (ad_sz hq)
  have HF := px_facts hp bP
  have HG := px_facts hq bQ
  rw [errP_ok ho] at HCQ
  rw [coversB_no (fun z => hb z.2.1)]
  have HW := Lib.hid hw1
  have K1 : Hid (∀ S, Keeps S w w1) := Lib.hid k1
  unfold pv av at HCH
  unfold pv at HCQ ⊢
  clear hw1 k1 bP bQ hp hq ho
  generalize hasB p q.a = r at *
  generalize p.bits = i0 at *
  generalize q.bits = i1 at *
  have hbd : decide (i0 ≤ i1) = false := decide_eq_false hb
  generalize b8s p.a.B = D0 at *
  generalize b8s q.a.B = D1 at *
  generalize adc p.a = C0 at *
  generalize adc q.a = CA at *
  generalize pxc p = CP at *
  generalize pxc q = CQ at *
  go_enter Tryz.func15, Tryz.ntmps15
  go_wp2_with ((with_reducible show wpList _ _ _ (⟨some 5, _, _, _, _, _⟩ :: _) _ _); rw [← HW.out]; refine x_list (Old.refl w1) ?_)
  --@0
  refine x_load (by kernel_rfl) 28 _ rfl (w.heap.size + 1) 0 rfl CQ _ (fun wq hC => (HG wq hC).1) Tryz.underlying28 rfl HSQ.out ?_
  try simp only [Act.put, Array.getInternal_eq_getElem, List.getElem_toArray, List.getElem_cons_zero, List.getElem_cons_succ, List.setIfInBounds_toArray, List.set_cons_zero, List.set_cons_succ]
  --@1
  refine x_call (by kernel_rfl) (fun wq hC => old_call hC (HCQ wq).out) (fun wq => ?_) ?_
  · go_simp <;> (try (with_reducible rfl))
  try simp only [Act.put, Array.getInternal_eq_getElem, List.getElem_toArray, List.getElem_cons_zero, List.getElem_cons_succ, List.setIfInBounds_toArray, List.set_cons_zero, List.set_cons_succ]
  --@2
  refine x_any (by kernel_rfl) ?_ (fun wq hC => ?_) ?_
  rotate_left
  · (go_simp) <;> (try (with_reducible rfl))
  try simp only [Act.put, Array.getInternal_eq_getElem, List.getElem_toArray, List.getElem_cons_zero, List.getElem_cons_succ, List.setIfInBounds_toArray, List.set_cons_zero, List.set_cons_succ]
  --@3
  refine x_any (by kernel_rfl) ?_ (fun wq hC => ?_) ?_
  rotate_left
  · (go_simp) <;> (try (with_reducible rfl))
  try simp only [Act.put, Array.getInternal_eq_getElem, List.getElem_toArray, List.getElem_cons_zero, List.getElem_cons_succ, List.setIfInBounds_toArray, List.set_cons_zero, List.set_cons_succ]
  --@4
  refine x_any (by kernel_rfl) ?_ (fun wq hC => ?_) ?_
  rotate_left
  · (go_simp) <;> (try (with_reducible rfl))
  try simp only [Act.put, Array.getInternal_eq_getElem, List.getElem_toArray, List.getElem_cons_zero, List.getElem_cons_succ, List.setIfInBounds_toArray, List.set_cons_zero, List.set_cons_succ]
  --@5
  refine x_any (by kernel_rfl) ?_ (fun wq hC => ?_) ?_
  rotate_left
  · (have hF := (HF wq hC); (try dsimp only at hF); go_simp) <;> (try (with_reducible rfl))
  try simp only [Act.put, Array.getInternal_eq_getElem, List.getElem_toArray, List.getElem_cons_zero, List.getElem_cons_succ, List.setIfInBounds_toArray, List.set_cons_zero, List.set_cons_succ]
  --@6
  refine x_any (by kernel_rfl) ?_ (fun wq hC => ?_) ?_
  rotate_left
  · (go_simp) <;> (try (with_reducible rfl))
  try simp only [Act.put, Array.getInternal_eq_getElem, List.getElem_toArray, List.getElem_cons_zero, List.getElem_cons_succ, List.setIfInBounds_toArray, List.set_cons_zero, List.set_cons_succ]
  --@7
  refine x_any (by kernel_rfl) ?_ (fun wq hC => ?_) ?_
  rotate_left
  · (have hF := (HG wq hC); (try dsimp only at hF); go_simp) <;> (try (with_reducible rfl))
  try simp only [Act.put, Array.getInternal_eq_getElem, List.getElem_toArray, List.getElem_cons_zero, List.getElem_cons_succ, List.setIfInBounds_toArray, List.set_cons_zero, List.set_cons_succ]
  --@8
  refine x_any (by kernel_rfl) ?_ (fun wq hC => ?_) ?_
  rotate_left
  · (go_simp) <;> (try (with_reducible rfl))
  try simp only [Act.put, Array.getInternal_eq_getElem, List.getElem_toArray, List.getElem_cons_zero, List.getElem_cons_succ, List.setIfInBounds_toArray, List.set_cons_zero, List.set_cons_succ]
  --@9
  refine x_any (by kernel_rfl) ?_ (fun wq hC => ?_) ?_
  rotate_left
  · (go_simp) <;> (try (with_reducible rfl))
  try simp only [Act.put, Array.getInternal_eq_getElem, List.getElem_toArray, List.getElem_cons_zero, List.getElem_cons_succ, List.setIfInBounds_toArray, List.set_cons_zero, List.set_cons_succ]
  --@10
  refine x_any (by kernel_rfl) ?_ (fun wq hC => ?_) ?_
  rotate_left
  · (go_simp) <;> (try (with_reducible rfl))
  try simp only [Act.put, Array.getInternal_eq_getElem, List.getElem_toArray, List.getElem_cons_zero, List.getElem_cons_succ, List.setIfInBounds_toArray, List.set_cons_zero, List.set_cons_succ]
  --@11
  refine x_skip (by kernel_rfl) ?_
  try simp only [Act.put, Array.getInternal_eq_getElem, List.getElem_toArray, List.getElem_cons_zero, List.getElem_cons_succ, List.setIfInBounds_toArray, List.set_cons_zero, List.set_cons_succ]
  --@12
  refine x_skip (by kernel_rfl) ?_
  try simp only [Act.put, Array.getInternal_eq_getElem, List.getElem_toArray, List.getElem_cons_zero, List.getElem_cons_succ, List.setIfInBounds_toArray, List.set_cons_zero, List.set_cons_succ]
  --@13
  refine x_skip (by kernel_rfl) ?_
  try simp only [Act.put, Array.getInternal_eq_getElem, List.getElem_toArray, List.getElem_cons_zero, List.getElem_cons_succ, List.setIfInBounds_toArray, List.set_cons_zero, List.set_cons_succ]
  --@14
  refine x_skip (by kernel_rfl) ?_
  try simp only [Act.put, Array.getInternal_eq_getElem, List.getElem_toArray, List.getElem_cons_zero, List.getElem_cons_succ, List.setIfInBounds_toArray, List.set_cons_zero, List.set_cons_succ]
  --@15
  refine x_any (by kernel_rfl) ?_ (fun wq hC => ?_) ?_
  rotate_left
  · (go_simp) <;> (try (with_reducible rfl))
  try simp only [Act.put, Array.getInternal_eq_getElem, List.getElem_toArray, List.getElem_cons_zero, List.getElem_cons_succ, List.setIfInBounds_toArray, List.set_cons_zero, List.set_cons_succ]
  --@16
  refine x_any (by kernel_rfl) ?_ (fun wq hC => ?_) ?_
  rotate_left
  · (go_simp) <;> (try (with_reducible rfl))
  try simp only [Act.put, Array.getInternal_eq_getElem, List.getElem_toArray, List.getElem_cons_zero, List.getElem_cons_succ, List.setIfInBounds_toArray, List.set_cons_zero, List.set_cons_succ]
  refine x_nil ?_
  intro wz kwz
  clear HCQ HCH HF HG
  have KZ : Hid (∀ S, Keeps S w wz) := Lib.hid (fun S => (K1.out S).trans (kwz.all S))
  clear kwz
  go_wp2
  try rw [Exit.noGoto_ret]
  go_ret
  exact ⟨rfl, KZ.out⟩
set_option maxRecDepth 100000 in
set_option maxHeartbeats 4000000 in
theorem pcovers_in (p q : Px) (hp : p.a.Wf) (hq : q.a.Wf) (ho : okP q) (hb : p.bits ≤ q.bits) : Calls Tryz.prog 15 #[pv p, pv q] w fun e w' => e = .returned (.bool (coversB p q)) ∧ ∀ S, Keeps S w w' := by
  obtain ⟨w1, hw1, k1, bP, bQ⟩ := box_two w (pxc p) (pxc q) 28 28
  have HCQ := fun w => Lib.hid (pcheck_ w q hq)
  have HCH := fun w => Lib.hid (phas_ w p q.a hp hq)
  have HSP := Lib.hid (px_sz hp)
  have HSQ := Lib.hid (px_sz hq)
  have HSA := Lib.hid (ad_sz hq)
  have HF := px_facts hp bP
  have HG := px_facts hq bQ
  rw [errP_ok ho] at HCQ
  rw [coversB_has ho hb]
  have HW := Lib.hid hw1
  have K1 : Hid (∀ S, Keeps S w w1) := Lib.hid k1
  unfold pv av at HCH
  unfold pv at HCQ ⊢
  clear hw1 k1 bP bQ hp hq ho
  generalize hasB p q.a = r at *
  generalize p.bits = i0 at *
  generalize q.bits = i1 at *
  have hbd : decide (i0 ≤ i1) = true := decide_eq_true hb
  generalize b8s p.a.B = D0 at *
  generalize b8s q.a.B = D1 at *
  generalize adc p.a = C0 at *
  generalize adc q.a = CA at *
  generalize pxc p = CP at *
  generalize pxc q = CQ at *
  go_enter Tryz.func15, Tryz.ntmps15
  go_wp2_with ((with_reducible show wpList _ _ _ (⟨some 5, _, _, _, _, _⟩ :: _) _ _); rw [← HW.out]; refine x_list (Old.refl w1) ?_)
  --@0
  refine x_load (by kernel_rfl) 28 _ rfl (w.heap.size + 1) 0 rfl CQ _ (fun wq hC => (HG wq hC).1) Tryz.underlying28 rfl HSQ.out ?_
  try simp only [Act.put, Array.getInternal_eq_getElem, List.getElem_toArray, List.getElem_cons_zero, List.getElem_cons_succ, List.setIfInBounds_toArray, List.set_cons_zero, List.set_cons_succ]
  --@1
  refine x_call (by kernel_rfl) (fun wq hC => old_call hC (HCQ wq).out) (fun wq => ?_) ?_
  · go_simp <;> (try (with_reducible rfl))
  try simp only [Act.put, Array.getInternal_eq_getElem, List.getElem_toArray, List.getElem_cons_zero, List.getElem_cons_succ, List.setIfInBounds_toArray, List.set_cons_zero, List.set_cons_succ]
  --@2
  refine x_any (by kernel_rfl) ?_ (fun wq hC => ?_) ?_
  rotate_left
  · (go_simp) <;> (try (with_reducible rfl))
  try simp only [Act.put, Array.getInternal_eq_getElem, List.getElem_toArray, List.getElem_cons_zero, List.getElem_cons_succ, List.setIfInBounds_toArray, List.set_cons_zero, List.set_cons_succ]
  --@3
  refine x_any (by kernel_rfl) ?_ (fun wq hC => ?_) ?_
  rotate_left
  · (go_simp) <;> (try (with_reducible rfl))
  try simp only [Act.put, Array.getInternal_eq_getElem, List.getElem_toArray, List.getElem_cons_zero, List.getElem_cons_succ, List.setIfInBounds_toArray, List.set_cons_zero, List.set_cons_succ]
  --@4
  refine x_any (by kernel_rfl) ?_ (fun wq hC => ?_) ?_
  rotate_left
  · (go_simp) <;> (try (with_reducible rfl))
  try simp only [Act.put, Array.getInternal_eq_getElem, List.getElem_toArray, List.getElem_cons_zero, List.getElem_cons_succ, List.setIfInBounds_toArray, List.set_cons_zero, List.set_cons_succ]
  --@5
  refine x_any (by kernel_rfl) ?_ (fun wq hC => ?_) ?_
  rotate_left
  · (have hF := (HF wq hC); (try dsimp only at hF); go_simp) <;> (try (with_reducible rfl))
  try simp only [Act.put, Array.getInternal_eq_getElem, List.getElem_toArray, List.getElem_cons_zero, List.getElem_cons_succ, List.setIfInBounds_toArray, List.set_cons_zero, List.set_cons_succ]
  --@6
  refine x_any (by kernel_rfl) ?_ (fun wq hC => ?_) ?_
  rotate_left
  · (go_simp) <;> (try (with_reducible rfl))
  try simp only [Act.put, Array.getInternal_eq_getElem, List.getElem_toArray, List.getElem_cons_zero, List.getElem_cons_succ, List.setIfInBounds_toArray, List.set_cons_zero, List.set_cons_succ]
  --@7
  refine x_any (by kernel_rfl) ?_ (fun wq hC => ?_) ?_
  rotate_left
  · (have hF := (HG wq hC); (try dsimp only at hF); go_simp) <;> (try (with_reducible rfl))
  try simp only [Act.put, Array.getInternal_eq_getElem, List.getElem_toArray, List.getElem_cons_zero, List.getElem_cons_succ, List.setIfInBounds_toArray, List.set_cons_zero, List.set_cons_succ]
  --@8
  refine x_any (by kernel_rfl) ?_ (fun wq hC => ?_) ?_
  rotate_left
  · (go_simp) <;> (try (with_reducible rfl))
  try simp only [Act.put, Array.getInternal_eq_getElem, List.getElem_toArray, List.getElem_cons_zero, List.getElem_cons_succ, List.setIfInBounds_toArray, List.set_cons_zero, List.set_cons_succ]
  --@9
  refine x_any (by kernel_rfl) ?_ (fun wq hC => ?_) ?_
  rotate_left
  · (go_simp) <;> (try (with_reducible rfl))
  try simp only [Act.put, Array.getInternal_eq_getElem, List.getElem_toArray, List.getElem_cons_zero, List.getElem_cons_succ, List.setIfInBounds_toArray, List.set_cons_zero, List.set_cons_succ]
  --@10
  refine x_any (by kernel_rfl) ?_ (fun wq hC => ?_) ?_
  rotate_left
  · (go_simp) <;> (try (with_reducible rfl))
  try simp only [Act.put, Array.getInternal_eq_getElem, List.getElem_toArray, List.getElem_cons_zero, List.getElem_cons_succ, List.setIfInBounds_toArray, List.set_cons_zero, List.set_cons_succ]
  --@11
  refine x_load (by kernel_rfl) 28 _ rfl w.heap.size 0 rfl CP _ (fun wq hC => (HF wq hC).1) Tryz.underlying28 rfl HSP.out ?_
  try simp only [Act.put, Array.getInternal_eq_getElem, List.getElem_toArray, List.getElem_cons_zero, List.getElem_cons_succ, List.setIfInBounds_toArray, List.set_cons_zero, List.set_cons_succ]
  --@12
  refine x_any (by kernel_rfl) ?_ (fun wq hC => ?_) ?_
  rotate_left
  · (go_simp) <;> (try (with_reducible rfl))
  try simp only [Act.put, Array.getInternal_eq_getElem, List.getElem_toArray, List.getElem_cons_zero, List.getElem_cons_succ, List.setIfInBounds_toArray, List.set_cons_zero, List.set_cons_succ]
  --@13
  refine x_load (by kernel_rfl) 24 _ rfl (w.heap.size + 1) 0 rfl CA _ (fun wq hC => (HG wq hC).2.1) Tryz.underlying24 rfl HSA.out ?_
  try simp only [Act.put, Array.getInternal_eq_getElem, List.getElem_toArray, List.getElem_cons_zero, List.getElem_cons_succ, List.setIfInBounds_toArray, List.set_cons_zero, List.set_cons_succ]
  --@14
  refine x_call (by kernel_rfl) (fun wq hC => old_call hC (HCH wq).out) (fun wq => ?_) ?_
  · go_simp <;> (try (with_reducible rfl))
  try simp only [Act.put, Array.getInternal_eq_getElem, List.getElem_toArray, List.getElem_cons_zero, List.getElem_cons_succ, List.setIfInBounds_toArray, List.set_cons_zero, List.set_cons_succ]
  --@15
  refine x_any (by kernel_rfl) ?_ (fun wq hC => ?_) ?_
  rotate_left
  · (go_simp) <;> (try (with_reducible rfl))
  try simp only [Act.put, Array.getInternal_eq_getElem, List.getElem_toArray, List.getElem_cons_zero, List.getElem_cons_succ, List.setIfInBounds_toArray, List.set_cons_zero, List.set_cons_succ]
  --@16
  refine x_any (by kernel_rfl) ?_ (fun wq hC => ?_) ?_
  rotate_left
  · (go_simp) <;> (try (with_reducible rfl))
  try simp only [Act.put, Array.getInternal_eq_getElem, List.getElem_toArray, List.getElem_cons_zero, List.getElem_cons_succ, List.setIfInBounds_toArray, List.set_cons_zero, List.set_cons_succ]
  refine x_nil ?_
  intro wz kwz
  clear HCQ HCH HF HG
  have KZ : Hid (∀ S, Keeps S w wz) := Lib.hid (fun S => (K1.out S).trans (kwz.all S))
  clear kwz
  go_wp2
  try rw [Exit.noGoto_ret]
  go_ret
  exact ⟨rfl, KZ.out⟩
theorem pcovers_ (p q : Px) (hp : p.a.Wf) (hq : q.a.Wf) : Calls Tryz.prog 15 #[pv p, pv q] w fun e w' => e = .returned (.bool (coversB p q)) ∧ ∀ S, Keeps S w w' := by
  by_cases ho : okP q
  · by_cases hb : p.bits ≤ q.bits
    · exact pcovers_in w p q hp hq ho hb
    · exact pcovers_few w p q hp hq ho hb
  · exact pcovers_q w p q hp hq ho
end
end Go.Proofs.YtgcdhfpbmcfedaaGreatDoor.pf
end
section
set_option linter.unusedVariables false
set_option linter.unusedSimpArgs false
namespace Go.Proofs.YtgcdhfpbmcfedaaGreatDoor.pf
open Go.RowKit Go.Proofs.YtgcdhfpbmcfedaaGreatDoor.oc Go.Proofs.YtgcdhfpbmcfedaaGreatDoor.mz Go.Proofs.YtgcdhfpbmcfedaaGreatDoor.wh Go.Proofs.YtgcdhfpbmcfedaaGreatDoor.qk
def cmpi (x y : Int) : Int := if x < y then -1 else if y < x then 1 else 0
theorem run_bytes (P : Program) (w : World) (b : Nat) : ∀ (l : List Nat) (o : Nat) (acc : ByteArray), (∀ j x, l[j]? = some x → w.cell? ⟨b, o + j, none⟩ = some (.int .u8 ((x : Nat) : Int))) → (Extern.Bytes.loadBytes ⟨b, o, none⟩ l.length acc).run P w = .ok ⟨acc.data ++ (l.map (fun x => UInt8.ofNat x)).toArray⟩ w
  | [], o, acc, _ => by simp [Extern.Bytes.loadBytes, Sem.run_pure]
  | x :: r, o, acc, h => by
    have h0 := h 0 x rfl
    have ih := run_bytes P w b r (o + 1) (acc.push (UInt8.ofNat x)) (fun j y hj => by
      have := h (j + 1) y (by simpa using hj)
      rw [show o + 1 + j = o + (j + 1) from by omega]; exact this)
    rw [Nat.add_zero] at h0
    rw [List.length_cons, Extern.Bytes.loadBytes]
    have hl : (load ⟨b, o, none⟩).run P w = .ok (.int .u8 ((x : Nat) : Int)) w := by rw [run_load, h0]
    rw [Sem.run_bind, hl]
    simp only [Result.andThen_ok, Int.toNat_natCast]
    show (Extern.Bytes.loadBytes ⟨b, o + 1, none⟩ r.length (acc.push (UInt8.ofNat x))).run P w = _
    rw [ih]
    simp
theorem cmp_bytes : ∀ (l m : List Nat), (∀ x ∈ l, x < 256) → (∀ x ∈ m, x < 256) → l.length = m.length → Lib.compareBytes (l.map (fun x => UInt8.ofNat x)) (m.map (fun x => UInt8.ofNat x)) = cmpB l m
  | [], [], _, _, _ => by simp [Lib.compareBytes, cmpB]
  | [], _ :: _, _, _, h => by simp at h
  | _ :: _, [], _, _, h => by simp at h
  | x :: r, y :: t, hl, hm, h => by
    have ih := cmp_bytes r t (fun z hz => hl z (List.mem_cons_of_mem _ hz)) (fun z hz => hm z (List.mem_cons_of_mem _ hz)) (by simpa using h)
    have hx := hl x (by simp)
    have hy := hm y (by simp)
    have lt : ∀ p q : Nat, p < 256 → q < 256 → (UInt8.ofNat p < UInt8.ofNat q ↔ p < q) := fun p q hp hq => by
      rw [UInt8.lt_iff_toNat_lt]
      simp [Nat.mod_eq_of_lt hp, Nat.mod_eq_of_lt hq]
    simp only [List.map_cons, Lib.compareBytes, cmpB, lt x y hx hy, lt y x hy hx, ih]
section
variable (w : World)
set_option maxRecDepth 100000 in
set_option maxHeartbeats 1000000 in
theorem nani_ (x : Int) : Calls Tryz.prog 65 #[.int .i64 x] w fun e w' => e = .returned (.bool false) ∧ ∀ S, Keeps S w w' := by
  go_enter Tryz.func65, Tryz.ntmps65
  go_wp2
  try rw [Exit.noGoto_ret]
  go_ret
  exact ⟨by simp, fun S => Keeps.refl S w⟩
set_option maxRecDepth 100000 in
set_option maxHeartbeats 1000000 in
theorem cmpi_ (x y : Int) : Calls Tryz.prog 44 #[.int .i64 x, .int .i64 y] w fun e w' => e = .returned (.int .i64 (cmpi x y)) ∧ ∀ S, Keeps S w w' := by
  have HX := fun w => Lib.hid (nani_ w x)
  have HY := fun w => Lib.hid (nani_ w y)
  have hc : (x < y ∧ cmpi x y = -1) ∨ ((¬ x < y ∧ y < x) ∧ cmpi x y = 1) ∨ ((¬ x < y ∧ ¬ y < x) ∧ cmpi x y = 0) := by
    unfold cmpi
    by_cases h1 : x < y
    · exact .inl ⟨h1, if_pos h1⟩
    · by_cases h2 : y < x
      · exact .inr (.inl ⟨⟨h1, h2⟩, by rw [if_neg h1, if_pos h2]⟩)
      · exact .inr (.inr ⟨⟨h1, h2⟩, by rw [if_neg h1, if_neg h2]⟩)
  have first : ∀ r : Int, (x < y ∧ r = -1) ∨ ((¬ x < y ∧ y < x) ∧ r = 1) ∨ ((¬ x < y ∧ ¬ y < x) ∧ r = 0) → Calls Tryz.prog 44 #[.int .i64 x, .int .i64 y] w fun e w' => e = .returned (.int .i64 r) ∧ ∀ S, Keeps S w w' := by
    intro r hr
    clear hc
    rcases hr with ⟨h1, rfl⟩ | ⟨⟨h1, h2⟩, rfl⟩ | ⟨⟨h1, h2⟩, rfl⟩
    all_goals
      go_enter Tryz.func44, Tryz.ntmps44
      go_wp2_with fail
      refine (HX _).out.mono ?_
      rintro e w1 ⟨rfl, k1⟩
      have K1 := Lib.hid k1
      clear k1
      go_wp2_with fail
      refine (HY _).out.mono ?_
      rintro e w2 ⟨rfl, k2⟩
      have K2 : Hid (∀ S, Keeps S w w2) := Lib.hid (fun S => (K1.out S).trans (k2 S))
      clear k2
      go_wp2
      try rw [Exit.noGoto_ret]
      go_ret
      exact ⟨rfl, K2.out⟩
  exact first _ hc
set_option maxRecDepth 100000 in
set_option maxHeartbeats 1000000 in
theorem bytescmp_ (l m : List Nat) (b c o p n1 n2 : Nat) (hl : ∀ x ∈ l, x < 256) (hm : ∀ x ∈ m, x < 256) (he : l.length = m.length) (h1 : ∀ j x, l[j]? = some x → w.cell? ⟨b, o + j, none⟩ = some (.int .u8 ((x : Nat) : Int))) (h2 : ∀ j x, m[j]? = some x → w.cell? ⟨c, p + j, none⟩ = some (.int .u8 ((x : Nat) : Int))) :
    Calls Tryz.prog 45 #[.slice (some ⟨b, o, none⟩) l.length n1, .slice (some ⟨c, p, none⟩) m.length n2] w fun e w' => e = .returned (.int .i64 (cmpB l m)) ∧ ∀ S, Keeps S w w' := by
  have hr : (Extern.BytealgCompare.compare #[.slice (some ⟨b, o, none⟩) l.length n1, .slice (some ⟨c, p, none⟩) m.length n2]).run Tryz.prog w = .ok (.int .i64 (cmpB l m)) w := by
    change Sem.run Tryz.prog (do pure (goInt (Extern.BytealgCompare.cmp (← Extern.Bytes.loadBytes ⟨b, o, none⟩ l.length .empty) (← Extern.Bytes.loadBytes ⟨c, p, none⟩ m.length .empty)))) w = _
    rw [Sem.run_bind, run_bytes _ w b l o _ h1]
    simp only [Result.andThen_ok]
    rw [Sem.run_bind, run_bytes _ w c m p _ h2]
    simp only [Result.andThen_ok, Sem.run_pure]
    rw [Lib.cmp_eq, ← cmp_bytes l m hl hm he]
    simp [goInt]
  clear h1 h2 hl hm
  generalize cmpB l m = r at *
  generalize l.length = n at *
  generalize m.length = k at *
  subst he
  go_enter Tryz.func45, Tryz.ntmps45
  go_wp2
  rw [run_callFunc_extern Tryz.func66 (by kernel_rfl) (by kernel_rfl) (by kernel_rfl) (e := Extern.BytealgCompare.compare) (by kernel_rfl), hr]
  simp only [Result.andThen]
  rw [Oper.upon_value]
  go_wp2
  go_ret
  exact ⟨rfl, fun S => Keeps.refl S w⟩
end
end Go.Proofs.YtgcdhfpbmcfedaaGreatDoor.pf
end
section
set_option linter.unusedVariables false
set_option linter.unusedSimpArgs false
namespace Go.Proofs.YtgcdhfpbmcfedaaGreatDoor.pf
open Go.RowKit Go.Proofs.YtgcdhfpbmcfedaaGreatDoor.oc Go.Proofs.YtgcdhfpbmcfedaaGreatDoor.mz Go.Proofs.YtgcdhfpbmcfedaaGreatDoor.wh Go.Proofs.YtgcdhfpbmcfedaaGreatDoor.qk
theorem b8_at {w : World} {b o : Nat} {B : List Nat} (h : w.rangeAt b o (b8s B)) : ∀ j x, B[j]? = some x → w.cell? ⟨b, o + j, none⟩ = some (.int .u8 ((x : Nat) : Int)) := fun j x hj => h j _ (by rw [b8s, List.getElem?_map, hj]; rfl)
section
variable (w : World)
set_option maxRecDepth 100000 in
set_option maxHeartbeats 4000000 in
theorem pcompare_kind (p q : Px) (hp : p.a.Wf) (hq : q.a.Wf) (hv : ¬ p.a.v6 = q.a.v6) : Calls Tryz.prog 18 #[pv p, pv q] w fun e w' => e = .returned (.int .i64 (cmp p q)) ∧ ∀ S, Keeps S w w' := by
  obtain ⟨w1, hw1, k1, bP, bQ⟩ := box_two w (pxc p) (pxc q) 28 28
  have HSA0 := Lib.hid (ad_sz hp)
  have HSA1 := Lib.hid (ad_sz hq)
  have HS0 := Lib.hid (b8_info hp.len)
  have HS1 := Lib.hid (b8_info hq.len)
  have HF := px_facts hp bP
  have HG := px_facts hq bQ
  have HN := fun w => Lib.hid (b8_equ p.a.B q.a.B hp.len hq.len w)

  have HCW0 := fun w => Lib.hid (pwidth_ w p.a)
  have HCW1 := fun w => Lib.hid (pwidth_ w q.a)
  have HCC := fun w => Lib.hid (cmpi_ w (wid p.a : Int) (wid q.a : Int))
  have he : cmp p q = cmpi (wid p.a : Int) (wid q.a : Int) := by
    unfold cmp cmpi
    rw [if_neg hv]
    rcases wid_cases p.a with ⟨v1, e1⟩ | ⟨v1, e1⟩ <;> rcases wid_cases q.a with ⟨v2, e2⟩ | ⟨v2, e2⟩ <;> rw [e1, e2, v2] <;> simp_all
  have hve : (p.a.v6 == q.a.v6) = false := by simpa using hv
  rw [he]
  unfold av at HCW0 HCW1
  generalize cmpi (wid p.a : Int) (wid q.a : Int) = r at *
  generalize wid p.a = W0 at *
  generalize wid q.a = W1 at *
  clear he hv
  have HW := Lib.hid hw1
  have K1 : Hid (∀ S, Keeps S w w1) := Lib.hid k1
  unfold pv
  clear hw1 k1 bP bQ hp hq
  generalize p.a.B = B0 at *
  generalize q.a.B = B1 at *
  generalize p.bits = i0 at *
  generalize q.bits = i1 at *
  generalize adc p.a = C0 at *
  generalize adc q.a = C1 at *
  generalize p.a.v6 = v0 at *
  generalize q.a.v6 = v1 at *
  generalize pxc p = CP at *
  generalize pxc q = CQ at *
  go_enter Tryz.func18, Tryz.ntmps18
  go_wp2_with ((with_reducible show wpList _ _ _ (⟨some 5, _, _, _, _, _⟩ :: _) _ _); rw [← HW.out]; refine x_list (Old.refl w1) ?_)
  --@0
  refine x_any (by kernel_rfl) ?_ (fun wq hC => ?_) ?_
  rotate_left
  · (go_simp) <;> (try (with_reducible rfl))
  try simp only [Act.put, Array.getInternal_eq_getElem, List.getElem_toArray, List.getElem_cons_zero, List.getElem_cons_succ, List.setIfInBounds_toArray, List.set_cons_zero, List.set_cons_succ]
  --@1
  refine x_any (by kernel_rfl) ?_ (fun wq hC => ?_) ?_
  rotate_left
  · (go_simp) <;> (try (with_reducible rfl))
  try simp only [Act.put, Array.getInternal_eq_getElem, List.getElem_toArray, List.getElem_cons_zero, List.getElem_cons_succ, List.setIfInBounds_toArray, List.set_cons_zero, List.set_cons_succ]
  --@2
  refine x_any (by kernel_rfl) ?_ (fun wq hC => ?_) ?_
  rotate_left
  · (have hF := (HF wq hC); (try dsimp only at hF); go_simp) <;> (try (with_reducible rfl))
  try simp only [Act.put, Array.getInternal_eq_getElem, List.getElem_toArray, List.getElem_cons_zero, List.getElem_cons_succ, List.setIfInBounds_toArray, List.set_cons_zero, List.set_cons_succ]
  --@3
  refine x_any (by kernel_rfl) ?_ (fun wq hC => ?_) ?_
  rotate_left
  · (go_simp) <;> (try (with_reducible rfl))
  try simp only [Act.put, Array.getInternal_eq_getElem, List.getElem_toArray, List.getElem_cons_zero, List.getElem_cons_succ, List.setIfInBounds_toArray, List.set_cons_zero, List.set_cons_succ]
  --@4
  refine x_any (by kernel_rfl) ?_ (fun wq hC => ?_) ?_
  rotate_left
  · (go_simp) <;> (try (with_reducible rfl))
  try simp only [Act.put, Array.getInternal_eq_getElem, List.getElem_toArray, List.getElem_cons_zero, List.getElem_cons_succ, List.setIfInBounds_toArray, List.set_cons_zero, List.set_cons_succ]
  --@5
  refine x_any (by kernel_rfl) ?_ (fun wq hC => ?_) ?_
  rotate_left
  · (have hF := (HG wq hC); (try dsimp only at hF); go_simp) <;> (try (with_reducible rfl))
  try simp only [Act.put, Array.getInternal_eq_getElem, List.getElem_toArray, List.getElem_cons_zero, List.getElem_cons_succ, List.setIfInBounds_toArray, List.set_cons_zero, List.set_cons_succ]
  --@6
  refine x_any (by kernel_rfl) ?_ (fun wq hC => ?_) ?_
  rotate_left
  · (go_simp) <;> (try (with_reducible rfl))
  try simp only [Act.put, Array.getInternal_eq_getElem, List.getElem_toArray, List.getElem_cons_zero, List.getElem_cons_succ, List.setIfInBounds_toArray, List.set_cons_zero, List.set_cons_succ]
  refine x_nil ?_
  intro wa kwa
  go_wp2_with fail
  refine q_region (by kernel_rfl) (by kernel_rfl) kwa ?_
  --@0
  refine q_any (by kernel_rfl) ?_ (fun wq hC => ?_) ?_
  rotate_left
  · (go_simp) <;> (try (with_reducible rfl))
  try simp only [Act.put, Array.getInternal_eq_getElem, List.getElem_toArray, List.getElem_cons_zero, List.getElem_cons_succ, List.setIfInBounds_toArray, List.set_cons_zero, List.set_cons_succ]
  --@1
  refine q_load (by kernel_rfl) 24 _ rfl w.heap.size 0 rfl C0 _ (fun wq hC => (HF wq hC).2.1) Tryz.underlying24 rfl HSA0.out ?_
  try simp only [Act.put, Array.getInternal_eq_getElem, List.getElem_toArray, List.getElem_cons_zero, List.getElem_cons_succ, List.setIfInBounds_toArray, List.set_cons_zero, List.set_cons_succ]
  --@2
  refine q_call (by kernel_rfl) (fun wq hC => old_call hC (HCW0 wq).out) (fun wq => ?_) ?_
  · go_simp <;> (try (with_reducible rfl))
  try simp only [Act.put, Array.getInternal_eq_getElem, List.getElem_toArray, List.getElem_cons_zero, List.getElem_cons_succ, List.setIfInBounds_toArray, List.set_cons_zero, List.set_cons_succ]
  --@3
  refine q_any (by kernel_rfl) ?_ (fun wq hC => ?_) ?_
  rotate_left
  · (go_simp) <;> (try (with_reducible rfl))
  try simp only [Act.put, Array.getInternal_eq_getElem, List.getElem_toArray, List.getElem_cons_zero, List.getElem_cons_succ, List.setIfInBounds_toArray, List.set_cons_zero, List.set_cons_succ]
  --@4
  refine q_load (by kernel_rfl) 24 _ rfl (w.heap.size + 1) 0 rfl C1 _ (fun wq hC => (HG wq hC).2.1) Tryz.underlying24 rfl HSA1.out ?_
  try simp only [Act.put, Array.getInternal_eq_getElem, List.getElem_toArray, List.getElem_cons_zero, List.getElem_cons_succ, List.setIfInBounds_toArray, List.set_cons_zero, List.set_cons_succ]
  --@5
  refine q_call (by kernel_rfl) (fun wq hC => old_call hC (HCW1 wq).out) (fun wq => ?_) ?_
  · go_simp <;> (try (with_reducible rfl))
  try simp only [Act.put, Array.getInternal_eq_getElem, List.getElem_toArray, List.getElem_cons_zero, List.getElem_cons_succ, List.setIfInBounds_toArray, List.set_cons_zero, List.set_cons_succ]
  --@6
  refine q_call (by kernel_rfl) (fun wq hC => old_call hC (HCC wq).out) (fun wq => ?_) ?_
  · go_simp <;> (try (with_reducible rfl))
  try simp only [Act.put, Array.getInternal_eq_getElem, List.getElem_toArray, List.getElem_cons_zero, List.getElem_cons_succ, List.setIfInBounds_toArray, List.set_cons_zero, List.set_cons_succ]
  --@7
  refine q_any (by kernel_rfl) ?_ (fun wq hC => ?_) ?_
  rotate_left
  · (go_simp) <;> (try (with_reducible rfl))
  try simp only [Act.put, Array.getInternal_eq_getElem, List.getElem_toArray, List.getElem_cons_zero, List.getElem_cons_succ, List.setIfInBounds_toArray, List.set_cons_zero, List.set_cons_succ]
  refine q_nil ?_
  intro wz kwz
  clear HF HG HN
  have KZ : Hid (∀ S, Keeps S w wz) := Lib.hid (fun S => (K1.out S).trans (kwz.all S))
  clear kwz
  go_wp2
  try rw [Exit.noGoto_ret]
  go_ret
  exact ⟨rfl, KZ.out⟩
set_option maxRecDepth 100000 in
set_option maxHeartbeats 4000000 in
theorem pcompare_bytes (p q : Px) (hp : p.a.Wf) (hq : q.a.Wf) (hv : p.a.v6 = q.a.v6) (hB : ¬ p.a.B = q.a.B) : Calls Tryz.prog 18 #[pv p, pv q] w fun e w' => e = .returned (.int .i64 (cmp p q)) ∧ ∀ S, Keeps S w w' := by
  obtain ⟨w1, hw1, k1, bP, bQ⟩ := box_two w (pxc p) (pxc q) 28 28
  have HSA0 := Lib.hid (ad_sz hp)
  have HSA1 := Lib.hid (ad_sz hq)
  have HS0 := Lib.hid (b8_info hp.len)
  have HS1 := Lib.hid (b8_info hq.len)
  have HF := px_facts hp bP
  have HG := px_facts hq bQ
  have HN := fun w => Lib.hid (b8_equ p.a.B q.a.B hp.len hq.len w)

  have HCB := fun (w9 : World) (h9 : Old w1 w9) => Lib.hid (bytescmp_ w9 p.a.B q.a.B w.heap.size (w.heap.size + 1) 1 1 16 16 hp.sm hq.sm (hp.len.trans hq.len.symm) (b8_at (HF w9 h9).2.2.1) (b8_at (HG w9 h9).2.2.1))
  have he : cmp p q = cmpB p.a.B q.a.B := by
    unfold cmp
    rw [if_pos hv, if_pos (fun z => hB (cmpB_zero _ _ z (hp.len.trans hq.len.symm)))]
  have hve : (p.a.v6 == q.a.v6) = true := by simpa using hv
  rw [show (p.a.B == q.a.B) = false from by simpa using hB] at HN
  rw [he]
  rw [hp.len, hq.len] at HCB
  generalize cmpB p.a.B q.a.B = r at *
  clear he hv hB
  have HW := Lib.hid hw1
  have K1 : Hid (∀ S, Keeps S w w1) := Lib.hid k1
  unfold pv
  clear hw1 k1 bP bQ hp hq
  generalize p.a.B = B0 at *
  generalize q.a.B = B1 at *
  generalize p.bits = i0 at *
  generalize q.bits = i1 at *
  generalize adc p.a = C0 at *
  generalize adc q.a = C1 at *
  generalize p.a.v6 = v0 at *
  generalize q.a.v6 = v1 at *
  generalize pxc p = CP at *
  generalize pxc q = CQ at *
  go_enter Tryz.func18, Tryz.ntmps18
  go_wp2_with ((with_reducible show wpList _ _ _ (⟨some 5, _, _, _, _, _⟩ :: _) _ _); rw [← HW.out]; refine x_list (Old.refl w1) ?_)
  --@0
  refine x_any (by kernel_rfl) ?_ (fun wq hC => ?_) ?_
  rotate_left
  · (go_simp) <;> (try (with_reducible rfl))
  try simp only [Act.put, Array.getInternal_eq_getElem, List.getElem_toArray, List.getElem_cons_zero, List.getElem_cons_succ, List.setIfInBounds_toArray, List.set_cons_zero, List.set_cons_succ]
  --@1
  refine x_any (by kernel_rfl) ?_ (fun wq hC => ?_) ?_
  rotate_left
  · (go_simp) <;> (try (with_reducible rfl))
  try simp only [Act.put, Array.getInternal_eq_getElem, List.getElem_toArray, List.getElem_cons_zero, List.getElem_cons_succ, List.setIfInBounds_toArray, List.set_cons_zero, List.set_cons_succ]
  --@2
  refine x_any (by kernel_rfl) ?_ (fun wq hC => ?_) ?_
  rotate_left
  · (have hF := (HF wq hC); (try dsimp only at hF); go_simp) <;> (try (with_reducible rfl))
  try simp only [Act.put, Array.getInternal_eq_getElem, List.getElem_toArray, List.getElem_cons_zero, List.getElem_cons_succ, List.setIfInBounds_toArray, List.set_cons_zero, List.set_cons_succ]
  --@3
  refine x_any (by kernel_rfl) ?_ (fun wq hC => ?_) ?_
  rotate_left
  · (go_simp) <;> (try (with_reducible rfl))
  try simp only [Act.put, Array.getInternal_eq_getElem, List.getElem_toArray, List.getElem_cons_zero, List.getElem_cons_succ, List.setIfInBounds_toArray, List.set_cons_zero, List.set_cons_succ]
  --@4
  refine x_any (by kernel_rfl) ?_ (fun wq hC => ?_) ?_
  rotate_left
  · (go_simp) <;> (try (with_reducible rfl))
  try simp only [Act.put, Array.getInternal_eq_getElem, List.getElem_toArray, List.getElem_cons_zero, List.getElem_cons_succ, List.setIfInBounds_toArray, List.set_cons_zero, List.set_cons_succ]
  --@5
  refine x_any (by kernel_rfl) ?_ (fun wq hC => ?_) ?_
  rotate_left
  · (have hF := (HG wq hC); (try dsimp only at hF); go_simp) <;> (try (with_reducible rfl))
  try simp only [Act.put, Array.getInternal_eq_getElem, List.getElem_toArray, List.getElem_cons_zero, List.getElem_cons_succ, List.setIfInBounds_toArray, List.set_cons_zero, List.set_cons_succ]
  --@6
  refine x_any (by kernel_rfl) ?_ (fun wq hC => ?_) ?_
  rotate_left
  · (go_simp) <;> (try (with_reducible rfl))
  try simp only [Act.put, Array.getInternal_eq_getElem, List.getElem_toArray, List.getElem_cons_zero, List.getElem_cons_succ, List.setIfInBounds_toArray, List.set_cons_zero, List.set_cons_succ]
  refine x_nil ?_
  intro wa kwa
  go_wp2_with ((with_reducible show wpList _ _ _ (⟨some 19, _, _, _, _, _⟩ :: _) _ _); refine x_list kwa ?_)
  --@0
  refine x_any (by kernel_rfl) ?_ (fun wq hC => ?_) ?_
  rotate_left
  · (go_simp) <;> (try (with_reducible rfl))
  try simp only [Act.put, Array.getInternal_eq_getElem, List.getElem_toArray, List.getElem_cons_zero, List.getElem_cons_succ, List.setIfInBounds_toArray, List.set_cons_zero, List.set_cons_succ]
  --@1
  refine x_any (by kernel_rfl) ?_ (fun wq hC => ?_) ?_
  rotate_left
  · (go_simp) <;> (try (with_reducible rfl))
  try simp only [Act.put, Array.getInternal_eq_getElem, List.getElem_toArray, List.getElem_cons_zero, List.getElem_cons_succ, List.setIfInBounds_toArray, List.set_cons_zero, List.set_cons_succ]
  --@2
  refine x_load (by kernel_rfl) 22 _ rfl w.heap.size 1 rfl (b8s B0) _ (fun wq hC => (HF wq hC).2.2.1) Tryz.underlying22 rfl HS0.out ?_
  try simp only [Act.put, Array.getInternal_eq_getElem, List.getElem_toArray, List.getElem_cons_zero, List.getElem_cons_succ, List.setIfInBounds_toArray, List.set_cons_zero, List.set_cons_succ]
  --@3
  refine x_any (by kernel_rfl) ?_ (fun wq hC => ?_) ?_
  rotate_left
  · (go_simp) <;> (try (with_reducible rfl))
  try simp only [Act.put, Array.getInternal_eq_getElem, List.getElem_toArray, List.getElem_cons_zero, List.getElem_cons_succ, List.setIfInBounds_toArray, List.set_cons_zero, List.set_cons_succ]
  --@4
  refine x_any (by kernel_rfl) ?_ (fun wq hC => ?_) ?_
  rotate_left
  · (go_simp) <;> (try (with_reducible rfl))
  try simp only [Act.put, Array.getInternal_eq_getElem, List.getElem_toArray, List.getElem_cons_zero, List.getElem_cons_succ, List.setIfInBounds_toArray, List.set_cons_zero, List.set_cons_succ]
  --@5
  refine x_load (by kernel_rfl) 22 _ rfl (w.heap.size + 1) 1 rfl (b8s B1) _ (fun wq hC => (HG wq hC).2.2.1) Tryz.underlying22 rfl HS1.out ?_
  try simp only [Act.put, Array.getInternal_eq_getElem, List.getElem_toArray, List.getElem_cons_zero, List.getElem_cons_succ, List.setIfInBounds_toArray, List.set_cons_zero, List.set_cons_succ]
  --@6
  refine x_any (by kernel_rfl) ?_ (fun wq hC => ?_) ?_
  rotate_left
  · (have hN := (HN wq).out; go_simp) <;> (try (with_reducible rfl))
  try simp only [Act.put, Array.getInternal_eq_getElem, List.getElem_toArray, List.getElem_cons_zero, List.getElem_cons_succ, List.setIfInBounds_toArray, List.set_cons_zero, List.set_cons_succ]
  refine x_nil ?_
  intro wb kwb
  go_wp2_with fail
  refine q_region (by kernel_rfl) (by kernel_rfl) kwb ?_
  --@0
  refine q_any (by kernel_rfl) ?_ (fun wq hC => ?_) ?_
  rotate_left
  · (go_simp) <;> (try (with_reducible rfl))
  try simp only [Act.put, Array.getInternal_eq_getElem, List.getElem_toArray, List.getElem_cons_zero, List.getElem_cons_succ, List.setIfInBounds_toArray, List.set_cons_zero, List.set_cons_succ]
  --@1
  refine q_any (by kernel_rfl) ?_ (fun wq hC => ?_) ?_
  rotate_left
  · (go_simp) <;> (try (with_reducible rfl))
  try simp only [Act.put, Array.getInternal_eq_getElem, List.getElem_toArray, List.getElem_cons_zero, List.getElem_cons_succ, List.setIfInBounds_toArray, List.set_cons_zero, List.set_cons_succ]
  --@2
  refine q_any (by kernel_rfl) ?_ (fun wq hC => ?_) ?_
  rotate_left
  · (go_simp) <;> (try (with_reducible rfl))
  try simp only [Act.put, Array.getInternal_eq_getElem, List.getElem_toArray, List.getElem_cons_zero, List.getElem_cons_succ, List.setIfInBounds_toArray, List.set_cons_zero, List.set_cons_succ]
  --@3
  refine q_any (by kernel_rfl) ?_ (fun wq hC => ?_) ?_
  rotate_left
  · (go_simp) <;> (try (with_reducible rfl))
  try simp only [Act.put, Array.getInternal_eq_getElem, List.getElem_toArray, List.getElem_cons_zero, List.getElem_cons_succ, List.setIfInBounds_toArray, List.set_cons_zero, List.set_cons_succ]
  --@4
  refine q_any (by kernel_rfl) ?_ (fun wq hC => ?_) ?_
  rotate_left
  · (go_simp) <;> (try (with_reducible rfl))
  try simp only [Act.put, Array.getInternal_eq_getElem, List.getElem_toArray, List.getElem_cons_zero, List.getElem_cons_succ, List.setIfInBounds_toArray, List.set_cons_zero, List.set_cons_succ]
  --@5
  refine q_any (by kernel_rfl) ?_ (fun wq hC => ?_) ?_
  rotate_left
  · (go_simp) <;> (try (with_reducible rfl))
  try simp only [Act.put, Array.getInternal_eq_getElem, List.getElem_toArray, List.getElem_cons_zero, List.getElem_cons_succ, List.setIfInBounds_toArray, List.set_cons_zero, List.set_cons_succ]
  --@6
  refine q_call (by kernel_rfl) (fun wq hC => old_call hC (HCB wq hC).out) (fun wq => ?_) ?_
  · go_simp <;> (try (with_reducible rfl))
  try simp only [Act.put, Array.getInternal_eq_getElem, List.getElem_toArray, List.getElem_cons_zero, List.getElem_cons_succ, List.setIfInBounds_toArray, List.set_cons_zero, List.set_cons_succ]
  --@7
  refine q_any (by kernel_rfl) ?_ (fun wq hC => ?_) ?_
  rotate_left
  · (go_simp) <;> (try (with_reducible rfl))
  try simp only [Act.put, Array.getInternal_eq_getElem, List.getElem_toArray, List.getElem_cons_zero, List.getElem_cons_succ, List.setIfInBounds_toArray, List.set_cons_zero, List.set_cons_succ]
  refine q_nil ?_
  intro wz kwz
  clear HF HG HN
  have KZ : Hid (∀ S, Keeps S w wz) := Lib.hid (fun S => (K1.out S).trans (kwz.all S))
  clear kwz
  go_wp2
  try rw [Exit.noGoto_ret]
  go_ret
  exact ⟨rfl, KZ.out⟩
set_option maxRecDepth 100000 in
set_option maxHeartbeats 4000000 in
theorem pcompare_bits (p q : Px) (hp : p.a.Wf) (hq : q.a.Wf) (hv : p.a.v6 = q.a.v6) (hB : p.a.B = q.a.B) : Calls Tryz.prog 18 #[pv p, pv q] w fun e w' => e = .returned (.int .i64 (cmp p q)) ∧ ∀ S, Keeps S w w' := by
  obtain ⟨w1, hw1, k1, bP, bQ⟩ := box_two w (pxc p) (pxc q) 28 28
  have HSA0 := Lib.hid (ad_sz hp)
  have HSA1 := Lib.hid (ad_sz hq)
  have HS0 := Lib.hid (b8_info hp.len)
  have HS1 := Lib.hid (b8_info hq.len)
  have HF := px_facts hp bP
  have HG := px_facts hq bQ
  have HN := fun w => Lib.hid (b8_equ p.a.B q.a.B hp.len hq.len w)

  have HCC := fun w => Lib.hid (cmpi_ w p.bits q.bits)
  have he : cmp p q = cmpi p.bits q.bits := by
    unfold cmp cmpi
    rw [if_pos hv, if_neg (by rw [hB, cmpB_self]; simp)]
  have hve : (p.a.v6 == q.a.v6) = true := by simpa using hv
  rw [show (p.a.B == q.a.B) = true from by simpa using hB] at HN
  rw [he]
  generalize cmpi p.bits q.bits = r at *
  clear he hv hB
  have HW := Lib.hid hw1
  have K1 : Hid (∀ S, Keeps S w w1) := Lib.hid k1
  unfold pv
  clear hw1 k1 bP bQ hp hq
  generalize p.a.B = B0 at *
  generalize q.a.B = B1 at *
  generalize p.bits = i0 at *
  generalize q.bits = i1 at *
  generalize adc p.a = C0 at *
  generalize adc q.a = C1 at *
  generalize p.a.v6 = v0 at *
  generalize q.a.v6 = v1 at *
  generalize pxc p = CP at *
  generalize pxc q = CQ at *
  go_enter Tryz.func18, Tryz.ntmps18
  go_wp2_with ((with_reducible show wpList _ _ _ (⟨some 5, _, _, _, _, _⟩ :: _) _ _); rw [← HW.out]; refine x_list (Old.refl w1) ?_)
  --@0
  refine x_any (by kernel_rfl) ?_ (fun wq hC => ?_) ?_
  rotate_left
  · (go_simp) <;> (try (with_reducible rfl))
  try simp only [Act.put, Array.getInternal_eq_getElem, List.getElem_toArray, List.getElem_cons_zero, List.getElem_cons_succ, List.setIfInBounds_toArray, List.set_cons_zero, List.set_cons_succ]
  --@1
  refine x_any (by kernel_rfl) ?_ (fun wq hC => ?_) ?_
  rotate_left
  · (go_simp) <;> (try (with_reducible rfl))
  try simp only [Act.put, Array.getInternal_eq_getElem, List.getElem_toArray, List.getElem_cons_zero, List.getElem_cons_succ, List.setIfInBounds_toArray, List.set_cons_zero, List.set_cons_succ]
  --@2
  refine x_any (by kernel_rfl) ?_ (fun wq hC => ?_) ?_
  rotate_left
  · (have hF := (HF wq hC); (try dsimp only at hF); go_simp) <;> (try (with_reducible rfl))
  try simp only [Act.put, Array.getInternal_eq_getElem, List.getElem_toArray, List.getElem_cons_zero, List.getElem_cons_succ, List.setIfInBounds_toArray, List.set_cons_zero, List.set_cons_succ]
  --@3
  refine x_any (by kernel_rfl) ?_ (fun wq hC => ?_) ?_
  rotate_left
  · (go_simp) <;> (try (with_reducible rfl))
  try simp only [Act.put, Array.getInternal_eq_getElem, List.getElem_toArray, List.getElem_cons_zero, List.getElem_cons_succ, List.setIfInBounds_toArray, List.set_cons_zero, List.set_cons_succ]
  --@4
  refine x_any (by kernel_rfl) ?_ (fun wq hC => ?_) ?_
  rotate_left
  · (go_simp) <;> (try (with_reducible rfl))
  try simp only [Act.put, Array.getInternal_eq_getElem, List.getElem_toArray, List.getElem_cons_zero, List.getElem_cons_succ, List.setIfInBounds_toArray, List.set_cons_zero, List.set_cons_succ]
  --@5
  refine x_any (by kernel_rfl) ?_ (fun wq hC => ?_) ?_
  rotate_left
  · (have hF := (HG wq hC); (try dsimp only at hF); go_simp) <;> (try (with_reducible rfl))
  try simp only [Act.put, Array.getInternal_eq_getElem, List.getElem_toArray, List.getElem_cons_zero, List.getElem_cons_succ, List.setIfInBounds_toArray, List.set_cons_zero, List.set_cons_succ]
  --@6
  refine x_any (by kernel_rfl) ?_ (fun wq hC => ?_) ?_
  rotate_left
  · (go_simp) <;> (try (with_reducible rfl))
  try simp only [Act.put, Array.getInternal_eq_getElem, List.getElem_toArray, List.getElem_cons_zero, List.getElem_cons_succ, List.setIfInBounds_toArray, List.set_cons_zero, List.set_cons_succ]
  refine x_nil ?_
  intro wa kwa
  go_wp2_with ((with_reducible show wpList _ _ _ (⟨some 19, _, _, _, _, _⟩ :: _) _ _); refine x_list kwa ?_)
  --@0
  refine x_any (by kernel_rfl) ?_ (fun wq hC => ?_) ?_
  rotate_left
  · (go_simp) <;> (try (with_reducible rfl))
  try simp only [Act.put, Array.getInternal_eq_getElem, List.getElem_toArray, List.getElem_cons_zero, List.getElem_cons_succ, List.setIfInBounds_toArray, List.set_cons_zero, List.set_cons_succ]
  --@1
  refine x_any (by kernel_rfl) ?_ (fun wq hC => ?_) ?_
  rotate_left
  · (go_simp) <;> (try (with_reducible rfl))
  try simp only [Act.put, Array.getInternal_eq_getElem, List.getElem_toArray, List.getElem_cons_zero, List.getElem_cons_succ, List.setIfInBounds_toArray, List.set_cons_zero, List.set_cons_succ]
  --@2
  refine x_load (by kernel_rfl) 22 _ rfl w.heap.size 1 rfl (b8s B0) _ (fun wq hC => (HF wq hC).2.2.1) Tryz.underlying22 rfl HS0.out ?_
  try simp only [Act.put, Array.getInternal_eq_getElem, List.getElem_toArray, List.getElem_cons_zero, List.getElem_cons_succ, List.setIfInBounds_toArray, List.set_cons_zero, List.set_cons_succ]
  --@3
  refine x_any (by kernel_rfl) ?_ (fun wq hC => ?_) ?_
  rotate_left
  · (go_simp) <;> (try (with_reducible rfl))
  try simp only [Act.put, Array.getInternal_eq_getElem, List.getElem_toArray, List.getElem_cons_zero, List.getElem_cons_succ, List.setIfInBounds_toArray, List.set_cons_zero, List.set_cons_succ]
  --@4
  refine x_any (by kernel_rfl) ?_ (fun wq hC => ?_) ?_
  rotate_left
  · (go_simp) <;> (try (with_reducible rfl))
  try simp only [Act.put, Array.getInternal_eq_getElem, List.getElem_toArray, List.getElem_cons_zero, List.getElem_cons_succ, List.setIfInBounds_toArray, List.set_cons_zero, List.set_cons_succ]
  --@5
  refine x_load (by kernel_rfl) 22 _ rfl (w.heap.size + 1) 1 rfl (b8s B1) _ (fun wq hC => (HG wq hC).2.2.1) Tryz.underlying22 rfl HS1.out ?_
  try simp only [Act.put, Array.getInternal_eq_getElem, List.getElem_toArray, List.getElem_cons_zero, List.getElem_cons_succ, List.setIfInBounds_toArray, List.set_cons_zero, List.set_cons_succ]
  --@6
  refine x_any (by kernel_rfl) ?_ (fun wq hC => ?_) ?_
  rotate_left
  · (have hN := (HN wq).out; go_simp) <;> (try (with_reducible rfl))
  try simp only [Act.put, Array.getInternal_eq_getElem, List.getElem_toArray, List.getElem_cons_zero, List.getElem_cons_succ, List.setIfInBounds_toArray, List.set_cons_zero, List.set_cons_succ]
  refine x_nil ?_
  intro wb kwb
  go_wp2_with ((with_reducible show wpList _ _ _ (⟨some 33, _, _, _, _, _⟩ :: _) _ _); refine x_list kwb ?_)
  --@0
  refine x_any (by kernel_rfl) ?_ (fun wq hC => ?_) ?_
  rotate_left
  · (go_simp) <;> (try (with_reducible rfl))
  try simp only [Act.put, Array.getInternal_eq_getElem, List.getElem_toArray, List.getElem_cons_zero, List.getElem_cons_succ, List.setIfInBounds_toArray, List.set_cons_zero, List.set_cons_succ]
  --@1
  refine x_any (by kernel_rfl) ?_ (fun wq hC => ?_) ?_
  rotate_left
  · (have hF := (HF wq hC); (try dsimp only at hF); go_simp) <;> (try (with_reducible rfl))
  try simp only [Act.put, Array.getInternal_eq_getElem, List.getElem_toArray, List.getElem_cons_zero, List.getElem_cons_succ, List.setIfInBounds_toArray, List.set_cons_zero, List.set_cons_succ]
  --@2
  refine x_any (by kernel_rfl) ?_ (fun wq hC => ?_) ?_
  rotate_left
  · (go_simp) <;> (try (with_reducible rfl))
  try simp only [Act.put, Array.getInternal_eq_getElem, List.getElem_toArray, List.getElem_cons_zero, List.getElem_cons_succ, List.setIfInBounds_toArray, List.set_cons_zero, List.set_cons_succ]
  --@3
  refine x_any (by kernel_rfl) ?_ (fun wq hC => ?_) ?_
  rotate_left
  · (have hF := (HG wq hC); (try dsimp only at hF); go_simp) <;> (try (with_reducible rfl))
  try simp only [Act.put, Array.getInternal_eq_getElem, List.getElem_toArray, List.getElem_cons_zero, List.getElem_cons_succ, List.setIfInBounds_toArray, List.set_cons_zero, List.set_cons_succ]
  --@4
  refine x_call (by kernel_rfl) (fun wq hC => old_call hC (HCC wq).out) (fun wq => ?_) ?_
  · go_simp <;> (try (with_reducible rfl))
  try simp only [Act.put, Array.getInternal_eq_getElem, List.getElem_toArray, List.getElem_cons_zero, List.getElem_cons_succ, List.setIfInBounds_toArray, List.set_cons_zero, List.set_cons_succ]
  --@5
  refine x_any (by kernel_rfl) ?_ (fun wq hC => ?_) ?_
  rotate_left
  · (go_simp) <;> (try (with_reducible rfl))
  try simp only [Act.put, Array.getInternal_eq_getElem, List.getElem_toArray, List.getElem_cons_zero, List.getElem_cons_succ, List.setIfInBounds_toArray, List.set_cons_zero, List.set_cons_succ]
  refine x_nil ?_
  intro wz kwz
  clear HF HG HN
  have KZ : Hid (∀ S, Keeps S w wz) := Lib.hid (fun S => (K1.out S).trans (kwz.all S))
  clear kwz
  go_wp2
  try rw [Exit.noGoto_ret]
  go_ret
  exact ⟨rfl, KZ.out⟩
theorem pcompare_ (p q : Px) (hp : p.a.Wf) (hq : q.a.Wf) : Calls Tryz.prog 18 #[pv p, pv q] w fun e w' => e = .returned (.int .i64 (cmp p q)) ∧ ∀ S, Keeps S w w' := by
  by_cases hv : p.a.v6 = q.a.v6
  · by_cases hB : p.a.B = q.a.B
    · exact pcompare_bits w p q hp hq hv hB
    · exact pcompare_bytes w p q hp hq hv hB
  · exact pcompare_kind w p q hp hq hv
end
end Go.Proofs.YtgcdhfpbmcfedaaGreatDoor.pf
end
section
set_option linter.unusedVariables false
set_option linter.unusedSimpArgs false
namespace Go.Proofs.YtgcdhfpbmcfedaaGreatDoor.pf
open Go.RowKit Go.Proofs.YtgcdhfpbmcfedaaGreatDoor.oc Go.Proofs.YtgcdhfpbmcfedaaGreatDoor.mz Go.Proofs.YtgcdhfpbmcfedaaGreatDoor.wh Go.Proofs.YtgcdhfpbmcfedaaGreatDoor.qk
theorem or2_form : ∀ x : Fin 256, ∀ s : Fin 8, bits .or .u8 ((x.val : Nat) : Int) ((128 : Int) / 2 ^ s.val) = ((bput x.val (7 - s.val) true : Nat) : Int) := by decide +kernel
section
variable (w : World)

set_option maxRecDepth 100000 in
set_option maxHeartbeats 4000000 in
theorem phalves_none (p : Px) (hp : p.a.Wf) (ho : ¬ okP p) : Calls Tryz.prog 16 #[pv p] w fun e w' => e = .returned (.tuple #[pv zeroP, pv zeroP, .int .i64 151]) ∧ ∀ S, Keeps S w w' := by
  have HCP := fun w => Lib.hid (pcheck_ w p hp)
  have HWD := fun w => Lib.hid (pwidth_ w p.a)
  have HSP := Lib.hid (show (Tryz.prog.info? 28).map (·.size) = some (pxc p).length from by rw [pxc_len hp]; exact prefix_info)
  have HSA := Lib.hid (show (Tryz.prog.info? 24).map (·.size) = some (adc p.a).length from by rw [adc_len hp]; exact addr_info)
  have HSZ := Lib.hid (show (Tryz.prog.info? 28).map (·.size) = some ([.bool false, .int .u8 0, .int .u8 0, .int .u8 0, .int .u8 0, .int .u8 0, .int .u8 0, .int .u8 0, .int .u8 0, .int .u8 0, .int .u8 0, .int .u8 0, .int .u8 0, .int .u8 0, .int .u8 0, .int .u8 0, .int .u8 0, .int .i64 0] : List Value).toArray.size from prefix_info)
  have HSZ2 := Lib.hid (show (Tryz.prog.info? 28).map (·.size) = some ([.bool false, .int .u8 0, .int .u8 0, .int .u8 0, .int .u8 0, .int .u8 0, .int .u8 0, .int .u8 0, .int .u8 0, .int .u8 0, .int .u8 0, .int .u8 0, .int .u8 0, .int .u8 0, .int .u8 0, .int .u8 0, .int .u8 0, .int .i64 0] : List Value).length from prefix_info)
  have HZO := Lib.hid (all_oneCell_toArray zero_one)
  have HWF := Lib.hid hp
  obtain ⟨w1, hw1, k1, bP, bQ, bR⟩ := box_three w (pxc p) [.bool false, .int .u8 0, .int .u8 0, .int .u8 0, .int .u8 0, .int .u8 0, .int .u8 0, .int .u8 0, .int .u8 0, .int .u8 0, .int .u8 0, .int .u8 0, .int .u8 0, .int .u8 0, .int .u8 0, .int .u8 0, .int .u8 0, .int .i64 0] 28
  have HL1 := Lib.hid (wh.Blk.range bP)
  have HW : Hid (w1 = ((w.alloc (.cells (pxc p).toArray 28)).alloc (.cells #[.bool false, .int .u8 0, .int .u8 0, .int .u8 0, .int .u8 0, .int .u8 0, .int .u8 0, .int .u8 0, .int .u8 0, .int .u8 0, .int .u8 0, .int .u8 0, .int .u8 0, .int .u8 0, .int .u8 0, .int .u8 0, .int .u8 0, .int .i64 0] 28)).alloc (.cells #[.bool false, .int .u8 0, .int .u8 0, .int .u8 0, .int .u8 0, .int .u8 0, .int .u8 0, .int .u8 0, .int .u8 0, .int .u8 0, .int .u8 0, .int .u8 0, .int .u8 0, .int .u8 0, .int .u8 0, .int .u8 0, .int .u8 0, .int .i64 0] 28)) := Lib.hid hw1
  have K1 : Hid (∀ S, Keeps S w w1) := Lib.hid k1
  have BP := Lib.hid bP
  have BQ := Lib.hid bQ
  have BR := Lib.hid bR
  unfold pv at HCP
  unfold av at HWD
  rw [errP_no ho] at HCP
  clear ho hp
  show Calls Tryz.prog 16 #[.agg (pxc p).toArray] w _
  clear hw1 k1 bP bQ bR
  go_enter Tryz.func16, Tryz.ntmps16
  go_wp2_with (first | (rw [← HW.out]; refine wpList_load_mid rfl 28 _ rfl w.heap.size 0 rfl (pxc p) _ HL1.out Tryz.underlying28 rfl HSP.out ?_))
  refine (HCP _).out.mono ?_
  rintro e w2 ⟨rfl, k2⟩
  have K2 : Hid (∀ S, Keeps S w w2) := Lib.hid (fun S => (K1.out S).trans (k2 S))
  have BP2 := Lib.hid (Blk.keeps BP.out (k2 (fun _ => False)) (fun z => z))
  have BQ2 := Lib.hid (Blk.keeps BQ.out (k2 (fun _ => False)) (fun z => z))
  have BR2 := Lib.hid (Blk.keeps BR.out (k2 (fun _ => False)) (fun z => z))
  clear k2
  generalize hq2 : w.heap.size + 1 + 1 = Q2 at *
  generalize hq1 : w.heap.size + 1 = Q1 at *
  obtain ⟨t0, b9, k9⟩ := over_all (vs := [.bool false, .int .u8 0, .int .u8 0, .int .u8 0, .int .u8 0, .int .u8 0, .int .u8 0, .int .u8 0, .int .u8 0, .int .u8 0, .int .u8 0, .int .u8 0, .int .u8 0, .int .u8 0, .int .u8 0, .int .u8 0, .int .u8 0, .int .i64 0]) BQ2.out rfl
  have bR9 := Blk.keeps BR2.out k9 (by omega)
  obtain ⟨t1, b8, k8⟩ := over_all (vs := [.bool false, .int .u8 0, .int .u8 0, .int .u8 0, .int .u8 0, .int .u8 0, .int .u8 0, .int .u8 0, .int .u8 0, .int .u8 0, .int .u8 0, .int .u8 0, .int .u8 0, .int .u8 0, .int .u8 0, .int .u8 0, .int .u8 0, .int .i64 0]) bR9 rfl
  have HT := Lib.hid (And.intro t0 t1)
  have B9 := Lib.hid (And.intro (Blk.keeps b9 k8 (by omega)) b8)
  have K9 := Lib.hid (k9.mono (S' := fun x => w.heap.size < x) (fun x _ e => by omega) |>.trans (k8.mono (S' := fun x => w.heap.size < x) (fun x _ e => by omega)))
  clear t0 b9 k9 t1 b8 k8 bR9
  go_wp2_with (first | (refine' wpList_store_mid rfl 28 _ _ rfl Q1 0 ([.bool false, .int .u8 0, .int .u8 0, .int .u8 0, .int .u8 0, .int .u8 0, .int .u8 0, .int .u8 0, .int .u8 0, .int .u8 0, .int .u8 0, .int .u8 0, .int .u8 0, .int .u8 0, .int .u8 0, .int .u8 0, .int .u8 0, .int .i64 0] : List Value).toArray ?hx rfl ?ht HSZ.out HZO.out ?_; (case hx => rfl); (case ht => exact HT.out.1)) | (refine' wpList_store_mid rfl 28 _ _ rfl Q2 0 ([.bool false, .int .u8 0, .int .u8 0, .int .u8 0, .int .u8 0, .int .u8 0, .int .u8 0, .int .u8 0, .int .u8 0, .int .u8 0, .int .u8 0, .int .u8 0, .int .u8 0, .int .u8 0, .int .u8 0, .int .u8 0, .int .u8 0, .int .i64 0] : List Value).toArray ?hx rfl ?ht HSZ.out HZO.out ?_; (case hx => rfl); (case ht => exact HT.out.2)))
  try rw [Exit.noGoto_ret]
  refine bodyPost_ret (ret_two (p := 2) (q := 3) (u := 4) (ty := 28) (by kernel_rfl) _ _ _ Q1 Q2 _ _ _ _ (by rfl) (by rfl) B9.out.1 B9.out.2 Tryz.underlying28 rfl HSZ2.out HSZ2.out) rfl ?_
  refine ⟨rfl, fun S => ?_⟩
  have kk := K2.out S
  have k9 := K9.out
  exact ⟨Nat.le_trans kk.size k9.size, fun x hx hs => by rw [k9.block x (Nat.lt_of_lt_of_le hx kk.size) (by omega), kk.block x hx hs], kk.same.trans k9.same⟩
set_option maxRecDepth 100000 in
set_option maxHeartbeats 4000000 in
theorem phalves_whole (p : Px) (hp : p.a.Wf) (ho : okP p) (hb : p.bits = (wid p.a : Int)) : Calls Tryz.prog 16 #[pv p] w fun e w' => e = .returned (.tuple #[pv zeroP, pv zeroP, .int .i64 5]) ∧ ∀ S, Keeps S w w' := by
  have HCP := fun w => Lib.hid (pcheck_ w p hp)
  have HWD := fun w => Lib.hid (pwidth_ w p.a)
  have HSP := Lib.hid (show (Tryz.prog.info? 28).map (·.size) = some (pxc p).length from by rw [pxc_len hp]; exact prefix_info)
  have HSA := Lib.hid (show (Tryz.prog.info? 24).map (·.size) = some (adc p.a).length from by rw [adc_len hp]; exact addr_info)
  have HSZ := Lib.hid (show (Tryz.prog.info? 28).map (·.size) = some ([.bool false, .int .u8 0, .int .u8 0, .int .u8 0, .int .u8 0, .int .u8 0, .int .u8 0, .int .u8 0, .int .u8 0, .int .u8 0, .int .u8 0, .int .u8 0, .int .u8 0, .int .u8 0, .int .u8 0, .int .u8 0, .int .u8 0, .int .i64 0] : List Value).toArray.size from prefix_info)
  have HSZ2 := Lib.hid (show (Tryz.prog.info? 28).map (·.size) = some ([.bool false, .int .u8 0, .int .u8 0, .int .u8 0, .int .u8 0, .int .u8 0, .int .u8 0, .int .u8 0, .int .u8 0, .int .u8 0, .int .u8 0, .int .u8 0, .int .u8 0, .int .u8 0, .int .u8 0, .int .u8 0, .int .u8 0, .int .i64 0] : List Value).length from prefix_info)
  have HZO := Lib.hid (all_oneCell_toArray zero_one)
  have HWF := Lib.hid hp
  obtain ⟨w1, hw1, k1, bP, bQ, bR⟩ := box_three w (pxc p) [.bool false, .int .u8 0, .int .u8 0, .int .u8 0, .int .u8 0, .int .u8 0, .int .u8 0, .int .u8 0, .int .u8 0, .int .u8 0, .int .u8 0, .int .u8 0, .int .u8 0, .int .u8 0, .int .u8 0, .int .u8 0, .int .u8 0, .int .i64 0] 28
  have HL1 := Lib.hid (wh.Blk.range bP)
  have HW : Hid (w1 = ((w.alloc (.cells (pxc p).toArray 28)).alloc (.cells #[.bool false, .int .u8 0, .int .u8 0, .int .u8 0, .int .u8 0, .int .u8 0, .int .u8 0, .int .u8 0, .int .u8 0, .int .u8 0, .int .u8 0, .int .u8 0, .int .u8 0, .int .u8 0, .int .u8 0, .int .u8 0, .int .u8 0, .int .i64 0] 28)).alloc (.cells #[.bool false, .int .u8 0, .int .u8 0, .int .u8 0, .int .u8 0, .int .u8 0, .int .u8 0, .int .u8 0, .int .u8 0, .int .u8 0, .int .u8 0, .int .u8 0, .int .u8 0, .int .u8 0, .int .u8 0, .int .u8 0, .int .u8 0, .int .i64 0] 28)) := Lib.hid hw1
  have K1 : Hid (∀ S, Keeps S w w1) := Lib.hid k1
  have BP := Lib.hid bP
  have BQ := Lib.hid bQ
  have BR := Lib.hid bR
  unfold pv at HCP
  unfold av at HWD
  rw [errP_ok ho] at HCP
  obtain ⟨m, hm⟩ : ∃ m : Nat, p.bits = (m : Int) := ⟨p.bits.toNat, by have := ho.2.1.1; omega⟩
  have HKS : ∀ w', Blk w' w.heap.size 28 (pxc p) → w'.rangeAt w.heap.size 0 (adc p.a) ∧ w'.cell? ⟨w.heap.size, 17, none⟩ = some (.int .i64 (m : Int)) := fun w' h => ⟨px_addr HWF.out h, by rw [← hm]; exact px_bits HWF.out h⟩
  have hw : wid p.a = m := by omega
  rw [hw] at HWD
  clear ho hp hb hw hm
  show Calls Tryz.prog 16 #[.agg (pxc p).toArray] w _
  clear hw1 k1 bP bQ bR
  go_enter Tryz.func16, Tryz.ntmps16
  go_wp2_with (first | (rw [← HW.out]; refine wpList_load_mid rfl 28 _ rfl w.heap.size 0 rfl (pxc p) _ HL1.out Tryz.underlying28 rfl HSP.out ?_))
  refine (HCP _).out.mono ?_
  rintro e w2 ⟨rfl, k2⟩
  have K2 : Hid (∀ S, Keeps S w w2) := Lib.hid (fun S => (K1.out S).trans (k2 S))
  have BP2 := Lib.hid (Blk.keeps BP.out (k2 (fun _ => False)) (fun z => z))
  have BQ2 := Lib.hid (Blk.keeps BQ.out (k2 (fun _ => False)) (fun z => z))
  have BR2 := Lib.hid (Blk.keeps BR.out (k2 (fun _ => False)) (fun z => z))
  clear k2
  go_wp2_with fail
  have HKO : ∀ w', Old w2 w' → w'.rangeAt w.heap.size 0 (adc p.a) ∧ w'.cell? ⟨w.heap.size, 17, none⟩ = some (.int .i64 (m : Int)) := fun w' h => HKS w' (h.blk BP2.out)
  refine q_region (by kernel_rfl) (by kernel_rfl) (Old.refl w2) ?_
  --@0
  refine q_any (by kernel_rfl) ?_ (fun wq hC => ?_) ?_
  rotate_left
  · (go_simp) <;> (try (with_reducible rfl))
  try simp only [Act.put, Array.getInternal_eq_getElem, List.getElem_toArray, List.getElem_cons_zero, List.getElem_cons_succ, List.setIfInBounds_toArray, List.set_cons_zero, List.set_cons_succ]
  --@1
  refine q_any (by kernel_rfl) ?_ (fun wq hC => ?_) ?_
  rotate_left
  · (have hF := (HKO wq hC); (try dsimp only at hF); go_simp) <;> (try (with_reducible rfl))
  try simp only [Act.put, Array.getInternal_eq_getElem, List.getElem_toArray, List.getElem_cons_zero, List.getElem_cons_succ, List.setIfInBounds_toArray, List.set_cons_zero, List.set_cons_succ]
  --@2
  refine q_any (by kernel_rfl) ?_ (fun wq hC => ?_) ?_
  rotate_left
  · (go_simp) <;> (try (with_reducible rfl))
  try simp only [Act.put, Array.getInternal_eq_getElem, List.getElem_toArray, List.getElem_cons_zero, List.getElem_cons_succ, List.setIfInBounds_toArray, List.set_cons_zero, List.set_cons_succ]
  --@3
  refine q_load (by kernel_rfl) 24 _ rfl w.heap.size 0 rfl (adc p.a) _ (fun wq hC => (HKO wq hC).1) Tryz.underlying24 rfl HSA.out ?_
  try simp only [Act.put, Array.getInternal_eq_getElem, List.getElem_toArray, List.getElem_cons_zero, List.getElem_cons_succ, List.setIfInBounds_toArray, List.set_cons_zero, List.set_cons_succ]
  --@4
  refine q_call (by kernel_rfl) (fun wq hC => old_call hC (HWD wq).out) (fun wq => ?_) ?_
  · go_simp <;> (try (with_reducible rfl))
  try simp only [Act.put, Array.getInternal_eq_getElem, List.getElem_toArray, List.getElem_cons_zero, List.getElem_cons_succ, List.setIfInBounds_toArray, List.set_cons_zero, List.set_cons_succ]
  --@5
  refine q_any (by kernel_rfl) ?_ (fun wq hC => ?_) ?_
  rotate_left
  · (go_simp) <;> (try (with_reducible rfl))
  try simp only [Act.put, Array.getInternal_eq_getElem, List.getElem_toArray, List.getElem_cons_zero, List.getElem_cons_succ, List.setIfInBounds_toArray, List.set_cons_zero, List.set_cons_succ]
  refine q_nil ?_
  intro w3 kw3
  have BP3 := Lib.hid (kw3.blk BP2.out)
  have BQ3 := Lib.hid (kw3.blk BQ2.out)
  have BR3 := Lib.hid (kw3.blk BR2.out)
  have K3 : Hid (∀ S, Keeps S w w3) := Lib.hid (fun S => (K2.out S).trans (kw3.all S))
  clear kw3 HKO
  generalize hq2 : w.heap.size + 1 + 1 = Q2 at *
  generalize hq1 : w.heap.size + 1 = Q1 at *
  obtain ⟨t0, b9, k9⟩ := over_all (vs := [.bool false, .int .u8 0, .int .u8 0, .int .u8 0, .int .u8 0, .int .u8 0, .int .u8 0, .int .u8 0, .int .u8 0, .int .u8 0, .int .u8 0, .int .u8 0, .int .u8 0, .int .u8 0, .int .u8 0, .int .u8 0, .int .u8 0, .int .i64 0]) BQ3.out rfl
  have bR9 := Blk.keeps BR3.out k9 (by omega)
  obtain ⟨t1, b8, k8⟩ := over_all (vs := [.bool false, .int .u8 0, .int .u8 0, .int .u8 0, .int .u8 0, .int .u8 0, .int .u8 0, .int .u8 0, .int .u8 0, .int .u8 0, .int .u8 0, .int .u8 0, .int .u8 0, .int .u8 0, .int .u8 0, .int .u8 0, .int .u8 0, .int .i64 0]) bR9 rfl
  have HT := Lib.hid (And.intro t0 t1)
  have B9 := Lib.hid (And.intro (Blk.keeps b9 k8 (by omega)) b8)
  have K9 := Lib.hid (k9.mono (S' := fun x => w.heap.size < x) (fun x _ e => by omega) |>.trans (k8.mono (S' := fun x => w.heap.size < x) (fun x _ e => by omega)))
  clear t0 b9 k9 t1 b8 k8 bR9
  go_wp2_with (first | (refine' wpList_store_mid rfl 28 _ _ rfl Q1 0 ([.bool false, .int .u8 0, .int .u8 0, .int .u8 0, .int .u8 0, .int .u8 0, .int .u8 0, .int .u8 0, .int .u8 0, .int .u8 0, .int .u8 0, .int .u8 0, .int .u8 0, .int .u8 0, .int .u8 0, .int .u8 0, .int .u8 0, .int .i64 0] : List Value).toArray ?hx rfl ?ht HSZ.out HZO.out ?_; (case hx => rfl); (case ht => exact HT.out.1)) | (refine' wpList_store_mid rfl 28 _ _ rfl Q2 0 ([.bool false, .int .u8 0, .int .u8 0, .int .u8 0, .int .u8 0, .int .u8 0, .int .u8 0, .int .u8 0, .int .u8 0, .int .u8 0, .int .u8 0, .int .u8 0, .int .u8 0, .int .u8 0, .int .u8 0, .int .u8 0, .int .u8 0, .int .i64 0] : List Value).toArray ?hx rfl ?ht HSZ.out HZO.out ?_; (case hx => rfl); (case ht => exact HT.out.2)))
  try rw [Exit.noGoto_ret]
  refine bodyPost_ret (ret_two (p := 2) (q := 3) (u := 4) (ty := 28) (by kernel_rfl) _ _ _ Q1 Q2 _ _ _ _ (by rfl) (by rfl) B9.out.1 B9.out.2 Tryz.underlying28 rfl HSZ2.out HSZ2.out) rfl ?_
  refine ⟨rfl, fun S => ?_⟩
  have kk := K3.out S
  have k9 := K9.out
  exact ⟨Nat.le_trans kk.size k9.size, fun x hx hs => by rw [k9.block x (Nat.lt_of_lt_of_le hx kk.size) (by omega), kk.block x hx hs], kk.same.trans k9.same⟩
set_option maxRecDepth 100000 in
set_option maxHeartbeats 4000000 in
theorem phalves_in (p : Px) (hp : p.a.Wf) (ho : okP p) (hb : ¬ p.bits = (wid p.a : Int)) : Calls Tryz.prog 16 #[pv p] w fun e w' => e = .returned (.tuple #[pv (half0 p), pv (half1 p), .int .i64 0]) ∧ ∀ S, Keeps S w w' := by
  have HCP := fun w => Lib.hid (pcheck_ w p hp)
  have HWD := fun w => Lib.hid (pwidth_ w p.a)
  have HSP := Lib.hid (show (Tryz.prog.info? 28).map (·.size) = some (pxc p).length from by rw [pxc_len hp]; exact prefix_info)
  have HSA := Lib.hid (show (Tryz.prog.info? 24).map (·.size) = some (adc p.a).length from by rw [adc_len hp]; exact addr_info)
  have HSZ := Lib.hid (show (Tryz.prog.info? 28).map (·.size) = some ([.bool false, .int .u8 0, .int .u8 0, .int .u8 0, .int .u8 0, .int .u8 0, .int .u8 0, .int .u8 0, .int .u8 0, .int .u8 0, .int .u8 0, .int .u8 0, .int .u8 0, .int .u8 0, .int .u8 0, .int .u8 0, .int .u8 0, .int .i64 0] : List Value).toArray.size from prefix_info)
  have HSZ2 := Lib.hid (show (Tryz.prog.info? 28).map (·.size) = some ([.bool false, .int .u8 0, .int .u8 0, .int .u8 0, .int .u8 0, .int .u8 0, .int .u8 0, .int .u8 0, .int .u8 0, .int .u8 0, .int .u8 0, .int .u8 0, .int .u8 0, .int .u8 0, .int .u8 0, .int .u8 0, .int .u8 0, .int .i64 0] : List Value).length from prefix_info)
  have HZO := Lib.hid (all_oneCell_toArray zero_one)
  have HWF := Lib.hid hp
  obtain ⟨w1, hw1, k1, bP, bQ, bR⟩ := box_three w (pxc p) [.bool false, .int .u8 0, .int .u8 0, .int .u8 0, .int .u8 0, .int .u8 0, .int .u8 0, .int .u8 0, .int .u8 0, .int .u8 0, .int .u8 0, .int .u8 0, .int .u8 0, .int .u8 0, .int .u8 0, .int .u8 0, .int .u8 0, .int .i64 0] 28
  have HL1 := Lib.hid (wh.Blk.range bP)
  have HW : Hid (w1 = ((w.alloc (.cells (pxc p).toArray 28)).alloc (.cells #[.bool false, .int .u8 0, .int .u8 0, .int .u8 0, .int .u8 0, .int .u8 0, .int .u8 0, .int .u8 0, .int .u8 0, .int .u8 0, .int .u8 0, .int .u8 0, .int .u8 0, .int .u8 0, .int .u8 0, .int .u8 0, .int .u8 0, .int .i64 0] 28)).alloc (.cells #[.bool false, .int .u8 0, .int .u8 0, .int .u8 0, .int .u8 0, .int .u8 0, .int .u8 0, .int .u8 0, .int .u8 0, .int .u8 0, .int .u8 0, .int .u8 0, .int .u8 0, .int .u8 0, .int .u8 0, .int .u8 0, .int .u8 0, .int .i64 0] 28)) := Lib.hid hw1
  have K1 : Hid (∀ S, Keeps S w w1) := Lib.hid k1
  have BP := Lib.hid bP
  have BQ := Lib.hid bQ
  have BR := Lib.hid bR
  unfold pv at HCP
  unfold av at HWD
  rw [errP_ok ho] at HCP
  obtain ⟨m, hm⟩ : ∃ m : Nat, p.bits = (m : Int) := ⟨p.bits.toNat, by have := ho.2.1.1; omega⟩
  have HKS : ∀ w', Blk w' w.heap.size 28 (pxc p) → w'.rangeAt w.heap.size 0 (adc p.a) ∧ w'.cell? ⟨w.heap.size, 17, none⟩ = some (.int .i64 (m : Int)) := fun w' h => ⟨px_addr HWF.out h, by rw [← hm]; exact px_bits HWF.out h⟩
  have hw : ¬ m = wid p.a := by omega
  have m0 : (0 : Int) ≤ (m : Int) := by omega
  have m1 : (m : Int) < 128 := by have := ho.2.1.2; have := (wid_le p.a).1; omega
  have hlm : m < 128 := by have := ho.2.1.2; have := (wid_le p.a).1; omega
  have hpw := put_wf HWF.out m hlm true
  have hw2 : ¬ (m : Int) = (wid p.a : Int) := by omega
  have hweq : decide ((m : Int) = (wid p.a : Int)) = false := decide_eq_false hw2
  have hwbe : ((m : Int) == (wid p.a : Int)) = false := by simpa using hw2
  have hset := adc_put HWF.out m true
  have hxl := byt_lt HWF.out (m / 8)
  have hxg := byt_some HWF.out (i := m / 8) (by omega)
  have hor := or2_form ⟨byt p.a (m / 8), hxl⟩ ⟨m % 8, by omega⟩
  simp only at hor
  have hhv : pv (half0 p) = .agg (adc p.a ++ ([.int .i64 ((m : Int) + 1)] : List Value)).toArray ∧ pv (half1 p) = .agg (adc (put p.a m true) ++ ([.int .i64 ((m : Int) + 1)] : List Value)).toArray := ⟨by unfold half0 pv pxc; rw [hm], by unfold half1 pv pxc; rw [hm]; rfl⟩
  obtain ⟨r0, r1, r2, r3, r4, r5, r6, r7, r8, r9, r10, r11, r12, r13, r14, r15, hr⟩ := sixteen hpw.len
  obtain ⟨q0, q1, q2, q3, q4, q5, q6, q7, q8, q9, q10, q11, q12, q13, q14, q15, hq⟩ := sixteen HWF.out.len
  have hadc : adc p.a = [.bool p.a.v6, .int .u8 (q0 : Int), .int .u8 (q1 : Int), .int .u8 (q2 : Int), .int .u8 (q3 : Int), .int .u8 (q4 : Int), .int .u8 (q5 : Int), .int .u8 (q6 : Int), .int .u8 (q7 : Int), .int .u8 (q8 : Int), .int .u8 (q9 : Int), .int .u8 (q10 : Int), .int .u8 (q11 : Int), .int .u8 (q12 : Int), .int .u8 (q13 : Int), .int .u8 (q14 : Int), .int .u8 (q15 : Int)] := by unfold adc; rw [hq]; rfl
  have hadr : adc (put p.a m true) = [.bool p.a.v6, .int .u8 (r0 : Int), .int .u8 (r1 : Int), .int .u8 (r2 : Int), .int .u8 (r3 : Int), .int .u8 (r4 : Int), .int .u8 (r5 : Int), .int .u8 (r6 : Int), .int .u8 (r7 : Int), .int .u8 (r8 : Int), .int .u8 (r9 : Int), .int .u8 (r10 : Int), .int .u8 (r11 : Int), .int .u8 (r12 : Int), .int .u8 (r13 : Int), .int .u8 (r14 : Int), .int .u8 (r15 : Int)] := by unfold adc; rw [hr]; rfl
  have HKL : ∀ w', Blk w' w.heap.size 28 (pxc p) → w'.rangeAt w.heap.size 0 [.bool p.a.v6, .int .u8 (q0 : Int), .int .u8 (q1 : Int), .int .u8 (q2 : Int), .int .u8 (q3 : Int), .int .u8 (q4 : Int), .int .u8 (q5 : Int), .int .u8 (q6 : Int), .int .u8 (q7 : Int), .int .u8 (q8 : Int), .int .u8 (q9 : Int), .int .u8 (q10 : Int), .int .u8 (q11 : Int), .int .u8 (q12 : Int), .int .u8 (q13 : Int), .int .u8 (q14 : Int), .int .u8 (q15 : Int)] ∧ w'.cell? ⟨w.heap.size, 17, none⟩ = some (.int .i64 (m : Int)) := fun w' h => ⟨by have := (HKS w' h).1; rw [hadc] at this; exact this, (HKS w' h).2⟩
  have HSq : Hid ((Tryz.prog.info? 24).map (·.size) = some ([.bool p.a.v6, .int .u8 (q0 : Int), .int .u8 (q1 : Int), .int .u8 (q2 : Int), .int .u8 (q3 : Int), .int .u8 (q4 : Int), .int .u8 (q5 : Int), .int .u8 (q6 : Int), .int .u8 (q7 : Int), .int .u8 (q8 : Int), .int .u8 (q9 : Int), .int .u8 (q10 : Int), .int .u8 (q11 : Int), .int .u8 (q12 : Int), .int .u8 (q13 : Int), .int .u8 (q14 : Int), .int .u8 (q15 : Int)] : List Value).length) := Lib.hid addr_info
  rw [hhv.1, hhv.2]
  rw [hadc] at hset HWD ⊢
  rw [hadr] at hset ⊢
  obtain ⟨x, hx⟩ : ∃ x, x = byt p.a (m / 8) := ⟨_, rfl⟩
  obtain ⟨y, hy⟩ : ∃ y, y = bput (byt p.a (m / 8)) (7 - m % 8) true := ⟨_, rfl⟩
  rw [← hy] at hset hor
  rw [← hx] at hxl hxg hor
  rw [hq] at hxg
  have HX : Hid (([.bool p.a.v6, .int .u8 (q0 : Int), .int .u8 (q1 : Int), .int .u8 (q2 : Int), .int .u8 (q3 : Int), .int .u8 (q4 : Int), .int .u8 (q5 : Int), .int .u8 (q6 : Int), .int .u8 (q7 : Int), .int .u8 (q8 : Int), .int .u8 (q9 : Int), .int .u8 (q10 : Int), .int .u8 (q11 : Int), .int .u8 (q12 : Int), .int .u8 (q13 : Int), .int .u8 (q14 : Int), .int .u8 (q15 : Int), .int .i64 ((m : Int) + 1)] : List Value)[1 + m / 8]? = some (.int .u8 ((x : Nat) : Int))) := Lib.hid (by
    have e : ([.bool p.a.v6, .int .u8 (q0 : Int), .int .u8 (q1 : Int), .int .u8 (q2 : Int), .int .u8 (q3 : Int), .int .u8 (q4 : Int), .int .u8 (q5 : Int), .int .u8 (q6 : Int), .int .u8 (q7 : Int), .int .u8 (q8 : Int), .int .u8 (q9 : Int), .int .u8 (q10 : Int), .int .u8 (q11 : Int), .int .u8 (q12 : Int), .int .u8 (q13 : Int), .int .u8 (q14 : Int), .int .u8 (q15 : Int), .int .i64 ((m : Int) + 1)] : List Value) = [.bool p.a.v6, .int .u8 (q0 : Int), .int .u8 (q1 : Int), .int .u8 (q2 : Int), .int .u8 (q3 : Int), .int .u8 (q4 : Int), .int .u8 (q5 : Int), .int .u8 (q6 : Int), .int .u8 (q7 : Int), .int .u8 (q8 : Int), .int .u8 (q9 : Int), .int .u8 (q10 : Int), .int .u8 (q11 : Int), .int .u8 (q12 : Int), .int .u8 (q13 : Int), .int .u8 (q14 : Int), .int .u8 (q15 : Int)] ++ [.int .i64 ((m : Int) + 1)] := rfl
    rw [e, List.getElem?_append_left (by show _ < 17; omega), Nat.add_comm 1, show ([.bool p.a.v6, .int .u8 (q0 : Int), .int .u8 (q1 : Int), .int .u8 (q2 : Int), .int .u8 (q3 : Int), .int .u8 (q4 : Int), .int .u8 (q5 : Int), .int .u8 (q6 : Int), .int .u8 (q7 : Int), .int .u8 (q8 : Int), .int .u8 (q9 : Int), .int .u8 (q10 : Int), .int .u8 (q11 : Int), .int .u8 (q12 : Int), .int .u8 (q13 : Int), .int .u8 (q14 : Int), .int .u8 (q15 : Int)] : List Value) = .bool p.a.v6 :: b8s [q0, q1, q2, q3, q4, q5, q6, q7, q8, q9, q10, q11, q12, q13, q14, q15] from rfl, List.getElem?_cons_succ, b8s, List.getElem?_map, hxg]; rfl)
  have HSET : Hid (([.bool p.a.v6, .int .u8 (q0 : Int), .int .u8 (q1 : Int), .int .u8 (q2 : Int), .int .u8 (q3 : Int), .int .u8 (q4 : Int), .int .u8 (q5 : Int), .int .u8 (q6 : Int), .int .u8 (q7 : Int), .int .u8 (q8 : Int), .int .u8 (q9 : Int), .int .u8 (q10 : Int), .int .u8 (q11 : Int), .int .u8 (q12 : Int), .int .u8 (q13 : Int), .int .u8 (q14 : Int), .int .u8 (q15 : Int), .int .i64 ((m : Int) + 1)] : List Value).set (1 + m / 8) (.int .u8 ((y : Nat) : Int)) = [.bool p.a.v6, .int .u8 (r0 : Int), .int .u8 (r1 : Int), .int .u8 (r2 : Int), .int .u8 (r3 : Int), .int .u8 (r4 : Int), .int .u8 (r5 : Int), .int .u8 (r6 : Int), .int .u8 (r7 : Int), .int .u8 (r8 : Int), .int .u8 (r9 : Int), .int .u8 (r10 : Int), .int .u8 (r11 : Int), .int .u8 (r12 : Int), .int .u8 (r13 : Int), .int .u8 (r14 : Int), .int .u8 (r15 : Int), .int .i64 ((m : Int) + 1)]) := Lib.hid (by
    have e : ([.bool p.a.v6, .int .u8 (q0 : Int), .int .u8 (q1 : Int), .int .u8 (q2 : Int), .int .u8 (q3 : Int), .int .u8 (q4 : Int), .int .u8 (q5 : Int), .int .u8 (q6 : Int), .int .u8 (q7 : Int), .int .u8 (q8 : Int), .int .u8 (q9 : Int), .int .u8 (q10 : Int), .int .u8 (q11 : Int), .int .u8 (q12 : Int), .int .u8 (q13 : Int), .int .u8 (q14 : Int), .int .u8 (q15 : Int), .int .i64 ((m : Int) + 1)] : List Value) = [.bool p.a.v6, .int .u8 (q0 : Int), .int .u8 (q1 : Int), .int .u8 (q2 : Int), .int .u8 (q3 : Int), .int .u8 (q4 : Int), .int .u8 (q5 : Int), .int .u8 (q6 : Int), .int .u8 (q7 : Int), .int .u8 (q8 : Int), .int .u8 (q9 : Int), .int .u8 (q10 : Int), .int .u8 (q11 : Int), .int .u8 (q12 : Int), .int .u8 (q13 : Int), .int .u8 (q14 : Int), .int .u8 (q15 : Int)] ++ [.int .i64 ((m : Int) + 1)] := rfl
    rw [e, List.set_append_left _ _ (by show _ < 17; omega), ← hset]; rfl)
  clear hhv hadc hadr hset hpw hx hy hxg hq hr hlm ho hp hb hm hw HKS
  generalize p.a.v6 = v at *
  show Calls Tryz.prog 16 #[.agg (pxc p).toArray] w _
  clear hw1 k1 bP bQ bR
  go_enter Tryz.func16, Tryz.ntmps16
  go_wp2_with (first | (rw [← HW.out]; refine wpList_load_mid rfl 28 _ rfl w.heap.size 0 rfl (pxc p) _ HL1.out Tryz.underlying28 rfl HSP.out ?_))
  refine (HCP _).out.mono ?_
  rintro e w2 ⟨rfl, k2⟩
  have K2 : Hid (∀ S, Keeps S w w2) := Lib.hid (fun S => (K1.out S).trans (k2 S))
  have BP2 := Lib.hid (Blk.keeps BP.out (k2 (fun _ => False)) (fun z => z))
  have BQ2 := Lib.hid (Blk.keeps BQ.out (k2 (fun _ => False)) (fun z => z))
  have BR2 := Lib.hid (Blk.keeps BR.out (k2 (fun _ => False)) (fun z => z))
  clear k2
  go_wp2_with fail
  have HKO : ∀ w', Old w2 w' → w'.rangeAt w.heap.size 0 [.bool v, .int .u8 (q0 : Int), .int .u8 (q1 : Int), .int .u8 (q2 : Int), .int .u8 (q3 : Int), .int .u8 (q4 : Int), .int .u8 (q5 : Int), .int .u8 (q6 : Int), .int .u8 (q7 : Int), .int .u8 (q8 : Int), .int .u8 (q9 : Int), .int .u8 (q10 : Int), .int .u8 (q11 : Int), .int .u8 (q12 : Int), .int .u8 (q13 : Int), .int .u8 (q14 : Int), .int .u8 (q15 : Int)] ∧ w'.cell? ⟨w.heap.size, 17, none⟩ = some (.int .i64 (m : Int)) := fun w' h => HKL w' (h.blk BP2.out)
  refine q_region (by kernel_rfl) (by kernel_rfl) (Old.refl w2) ?_
  --@0
  refine q_any (by kernel_rfl) ?_ (fun wq hC => ?_) ?_
  rotate_left
  · (go_simp) <;> (try (with_reducible rfl))
  try simp only [Act.put, Array.getInternal_eq_getElem, List.getElem_toArray, List.getElem_cons_zero, List.getElem_cons_succ, List.setIfInBounds_toArray, List.set_cons_zero, List.set_cons_succ]
  --@1
  refine q_any (by kernel_rfl) ?_ (fun wq hC => ?_) ?_
  rotate_left
  · (have hF := (HKO wq hC); (try dsimp only at hF); go_simp) <;> (try (with_reducible rfl))
  try simp only [Act.put, Array.getInternal_eq_getElem, List.getElem_toArray, List.getElem_cons_zero, List.getElem_cons_succ, List.setIfInBounds_toArray, List.set_cons_zero, List.set_cons_succ]
  --@2
  refine q_any (by kernel_rfl) ?_ (fun wq hC => ?_) ?_
  rotate_left
  · (go_simp) <;> (try (with_reducible rfl))
  try simp only [Act.put, Array.getInternal_eq_getElem, List.getElem_toArray, List.getElem_cons_zero, List.getElem_cons_succ, List.setIfInBounds_toArray, List.set_cons_zero, List.set_cons_succ]
  --@3
  refine q_load (by kernel_rfl) 24 _ rfl w.heap.size 0 rfl [.bool v, .int .u8 (q0 : Int), .int .u8 (q1 : Int), .int .u8 (q2 : Int), .int .u8 (q3 : Int), .int .u8 (q4 : Int), .int .u8 (q5 : Int), .int .u8 (q6 : Int), .int .u8 (q7 : Int), .int .u8 (q8 : Int), .int .u8 (q9 : Int), .int .u8 (q10 : Int), .int .u8 (q11 : Int), .int .u8 (q12 : Int), .int .u8 (q13 : Int), .int .u8 (q14 : Int), .int .u8 (q15 : Int)] _ (fun wq hC => (HKO wq hC).1) Tryz.underlying24 rfl HSq.out ?_
  try simp only [Act.put, Array.getInternal_eq_getElem, List.getElem_toArray, List.getElem_cons_zero, List.getElem_cons_succ, List.setIfInBounds_toArray, List.set_cons_zero, List.set_cons_succ]
  --@4
  refine q_call (by kernel_rfl) (fun wq hC => old_call hC (HWD wq).out) (fun wq => ?_) ?_
  · go_simp <;> (try (with_reducible rfl))
  try simp only [Act.put, Array.getInternal_eq_getElem, List.getElem_toArray, List.getElem_cons_zero, List.getElem_cons_succ, List.setIfInBounds_toArray, List.set_cons_zero, List.set_cons_succ]
  --@5
  refine q_any (by kernel_rfl) ?_ (fun wq hC => ?_) ?_
  rotate_left
  · (go_simp) <;> (try (with_reducible rfl))
  try simp only [Act.put, Array.getInternal_eq_getElem, List.getElem_toArray, List.getElem_cons_zero, List.getElem_cons_succ, List.setIfInBounds_toArray, List.set_cons_zero, List.set_cons_succ]
  refine q_nil ?_
  intro w3 kw3
  have BP3 := Lib.hid (kw3.blk BP2.out)
  have BQ3 := Lib.hid (kw3.blk BQ2.out)
  have BR3 := Lib.hid (kw3.blk BR2.out)
  have K3 : Hid (∀ S, Keeps S w w3) := Lib.hid (fun S => (K2.out S).trans (kw3.all S))
  clear kw3 HKO

  clear HL1 HCP HWD K1 K2 BP BP2 BQ BQ2 BR BR2
  have HQ := Lib.hid (show w.heap.size ≠ w.heap.size + 1 ∧ w.heap.size ≠ w.heap.size + 1 + 1 ∧ w.heap.size + 1 ≠ w.heap.size + 1 + 1 from ⟨by omega, by omega, by omega⟩)
  have HQ2 := Lib.hid (show w.heap.size < w.heap.size + 1 ∧ w.heap.size < w.heap.size + 1 + 1 from ⟨by omega, by omega⟩)
  have HSF : Hid ((Tryz.prog.info? 28).map (·.size) = some ([.bool v, .int .u8 (q0 : Int), .int .u8 (q1 : Int), .int .u8 (q2 : Int), .int .u8 (q3 : Int), .int .u8 (q4 : Int), .int .u8 (q5 : Int), .int .u8 (q6 : Int), .int .u8 (q7 : Int), .int .u8 (q8 : Int), .int .u8 (q9 : Int), .int .u8 (q10 : Int), .int .u8 (q11 : Int), .int .u8 (q12 : Int), .int .u8 (q13 : Int), .int .u8 (q14 : Int), .int .u8 (q15 : Int), .int .i64 ((m : Int) + 1)] : List Value).toArray.size) := Lib.hid prefix_info
  have HSF2 : Hid ((Tryz.prog.info? 28).map (·.size) = some ([.bool v, .int .u8 (q0 : Int), .int .u8 (q1 : Int), .int .u8 (q2 : Int), .int .u8 (q3 : Int), .int .u8 (q4 : Int), .int .u8 (q5 : Int), .int .u8 (q6 : Int), .int .u8 (q7 : Int), .int .u8 (q8 : Int), .int .u8 (q9 : Int), .int .u8 (q10 : Int), .int .u8 (q11 : Int), .int .u8 (q12 : Int), .int .u8 (q13 : Int), .int .u8 (q14 : Int), .int .u8 (q15 : Int), .int .i64 ((m : Int) + 1)] : List Value).length) := Lib.hid prefix_info
  have HSF3 : Hid ((Tryz.prog.info? 28).map (·.size) = some ([.bool v, .int .u8 (r0 : Int), .int .u8 (r1 : Int), .int .u8 (r2 : Int), .int .u8 (r3 : Int), .int .u8 (r4 : Int), .int .u8 (r5 : Int), .int .u8 (r6 : Int), .int .u8 (r7 : Int), .int .u8 (r8 : Int), .int .u8 (r9 : Int), .int .u8 (r10 : Int), .int .u8 (r11 : Int), .int .u8 (r12 : Int), .int .u8 (r13 : Int), .int .u8 (r14 : Int), .int .u8 (r15 : Int), .int .i64 ((m : Int) + 1)] : List Value).length) := Lib.hid prefix_info
  have HOF := Lib.hid (And.intro (all_oneCell_toArray (cs := [.bool v, .int .u8 (q0 : Int), .int .u8 (q1 : Int), .int .u8 (q2 : Int), .int .u8 (q3 : Int), .int .u8 (q4 : Int), .int .u8 (q5 : Int), .int .u8 (q6 : Int), .int .u8 (q7 : Int), .int .u8 (q8 : Int), .int .u8 (q9 : Int), .int .u8 (q10 : Int), .int .u8 (q11 : Int), .int .u8 (q12 : Int), .int .u8 (q13 : Int), .int .u8 (q14 : Int), .int .u8 (q15 : Int), .int .i64 ((m : Int) + 1)]) (px_one ⟨⟨v, [q0, q1, q2, q3, q4, q5, q6, q7, q8, q9, q10, q11, q12, q13, q14, q15]⟩, (m : Int) + 1⟩)) (all_oneCell_toArray (cs := [.bool v, .int .u8 (r0 : Int), .int .u8 (r1 : Int), .int .u8 (r2 : Int), .int .u8 (r3 : Int), .int .u8 (r4 : Int), .int .u8 (r5 : Int), .int .u8 (r6 : Int), .int .u8 (r7 : Int), .int .u8 (r8 : Int), .int .u8 (r9 : Int), .int .u8 (r10 : Int), .int .u8 (r11 : Int), .int .u8 (r12 : Int), .int .u8 (r13 : Int), .int .u8 (r14 : Int), .int .u8 (r15 : Int), .int .i64 ((m : Int) + 1)]) (px_one ⟨⟨v, [r0, r1, r2, r3, r4, r5, r6, r7, r8, r9, r10, r11, r12, r13, r14, r15]⟩, (m : Int) + 1⟩)))
  have hwr : IntKind.i64.wrap ((m : Int) + 1) = (m : Int) + 1 := by rw [IntKind.wrap_i64]; omega
  generalize hq2 : w.heap.size + 1 + 1 = Q2 at *
  generalize hq1 : w.heap.size + 1 = Q1 at *
  obtain ⟨w5, hw5⟩ : ∃ w5, w5 = w3.setCells Q1 0 [.bool v, .int .u8 (q0 : Int), .int .u8 (q1 : Int), .int .u8 (q2 : Int), .int .u8 (q3 : Int), .int .u8 (q4 : Int), .int .u8 (q5 : Int), .int .u8 (q6 : Int), .int .u8 (q7 : Int), .int .u8 (q8 : Int), .int .u8 (q9 : Int), .int .u8 (q10 : Int), .int .u8 (q11 : Int), .int .u8 (q12 : Int), .int .u8 (q13 : Int), .int .u8 (q14 : Int), .int .u8 (q15 : Int), .int .i64 ((m : Int) + 1)] := ⟨_, rfl⟩
  obtain ⟨w6, hw6⟩ : ∃ w6, w6 = w5.setCells Q2 0 [.bool v, .int .u8 (q0 : Int), .int .u8 (q1 : Int), .int .u8 (q2 : Int), .int .u8 (q3 : Int), .int .u8 (q4 : Int), .int .u8 (q5 : Int), .int .u8 (q6 : Int), .int .u8 (q7 : Int), .int .u8 (q8 : Int), .int .u8 (q9 : Int), .int .u8 (q10 : Int), .int .u8 (q11 : Int), .int .u8 (q12 : Int), .int .u8 (q13 : Int), .int .u8 (q14 : Int), .int .u8 (q15 : Int), .int .i64 ((m : Int) + 1)] := ⟨_, rfl⟩
  have HT4 := two_over (C1 := [.bool v, .int .u8 (q0 : Int), .int .u8 (q1 : Int), .int .u8 (q2 : Int), .int .u8 (q3 : Int), .int .u8 (q4 : Int), .int .u8 (q5 : Int), .int .u8 (q6 : Int), .int .u8 (q7 : Int), .int .u8 (q8 : Int), .int .u8 (q9 : Int), .int .u8 (q10 : Int), .int .u8 (q11 : Int), .int .u8 (q12 : Int), .int .u8 (q13 : Int), .int .u8 (q14 : Int), .int .u8 (q15 : Int), .int .i64 ((m : Int) + 1)]) (C2 := [.bool v, .int .u8 (q0 : Int), .int .u8 (q1 : Int), .int .u8 (q2 : Int), .int .u8 (q3 : Int), .int .u8 (q4 : Int), .int .u8 (q5 : Int), .int .u8 (q6 : Int), .int .u8 (q7 : Int), .int .u8 (q8 : Int), .int .u8 (q9 : Int), .int .u8 (q10 : Int), .int .u8 (q11 : Int), .int .u8 (q12 : Int), .int .u8 (q13 : Int), .int .u8 (q14 : Int), .int .u8 (q15 : Int), .int .i64 ((m : Int) + 1)]) BP3.out BQ3.out BR3.out rfl rfl HQ.out.1 HQ.out.2.1 HQ.out.2.2
  rw [← hw5, ← hw6] at HT4
  have HT := Lib.hid (And.intro HT4.1 HT4.2.1)
  have BQ6 := Lib.hid HT4.2.2.1
  have BR6 := Lib.hid HT4.2.2.2.1
  have K6 := Lib.hid HT4.2.2.2.2.1
  have BP6 := Lib.hid HT4.2.2.2.2.2.2
  have HL3 := Lib.hid (HKL w3 BP3.out)
  have HL5 : Hid (w5.rangeAt Q1 0 [.bool v, .int .u8 (q0 : Int), .int .u8 (q1 : Int), .int .u8 (q2 : Int), .int .u8 (q3 : Int), .int .u8 (q4 : Int), .int .u8 (q5 : Int), .int .u8 (q6 : Int), .int .u8 (q7 : Int), .int .u8 (q8 : Int), .int .u8 (q9 : Int), .int .u8 (q10 : Int), .int .u8 (q11 : Int), .int .u8 (q12 : Int), .int .u8 (q13 : Int), .int .u8 (q14 : Int), .int .u8 (q15 : Int), .int .i64 ((m : Int) + 1)]) := Lib.hid (by
    obtain ⟨_, b9, _⟩ := over_all (vs := [.bool v, .int .u8 (q0 : Int), .int .u8 (q1 : Int), .int .u8 (q2 : Int), .int .u8 (q3 : Int), .int .u8 (q4 : Int), .int .u8 (q5 : Int), .int .u8 (q6 : Int), .int .u8 (q7 : Int), .int .u8 (q8 : Int), .int .u8 (q9 : Int), .int .u8 (q10 : Int), .int .u8 (q11 : Int), .int .u8 (q12 : Int), .int .u8 (q13 : Int), .int .u8 (q14 : Int), .int .u8 (q15 : Int), .int .i64 ((m : Int) + 1)]) BQ3.out rfl
    rw [← hw5] at b9
    exact wh.Blk.range b9)
  have x17 := (HKL w6 BP6.out).2
  have xb : w6.cell? ⟨Q2, 1 + m / 8, none⟩ = some (.int .u8 ((x : Nat) : Int)) := by rw [BR6.out.cell]; exact HX.out
  have xf := BR6.out.frozen (1 + m / 8)
  have x3 := (HKL w3 BP3.out).2
  have X6 := Lib.hid (And.intro x17 (And.intro xb xf))
  have HW5 := Lib.hid (And.intro hw5 hw6)
  clear HT4 hw5 hw6 HKL x17 xb xf
  go_wp2_with (first
    | (refine wpList_load_mid rfl 24 _ rfl w.heap.size 0 rfl [.bool v, .int .u8 (q0 : Int), .int .u8 (q1 : Int), .int .u8 (q2 : Int), .int .u8 (q3 : Int), .int .u8 (q4 : Int), .int .u8 (q5 : Int), .int .u8 (q6 : Int), .int .u8 (q7 : Int), .int .u8 (q8 : Int), .int .u8 (q9 : Int), .int .u8 (q10 : Int), .int .u8 (q11 : Int), .int .u8 (q12 : Int), .int .u8 (q13 : Int), .int .u8 (q14 : Int), .int .u8 (q15 : Int)] _ HL3.out.1 Tryz.underlying24 rfl HSq.out ?_)
    | (refine' wpList_store_mid rfl 28 _ _ rfl Q1 0 ([.bool v, .int .u8 (q0 : Int), .int .u8 (q1 : Int), .int .u8 (q2 : Int), .int .u8 (q3 : Int), .int .u8 (q4 : Int), .int .u8 (q5 : Int), .int .u8 (q6 : Int), .int .u8 (q7 : Int), .int .u8 (q8 : Int), .int .u8 (q9 : Int), .int .u8 (q10 : Int), .int .u8 (q11 : Int), .int .u8 (q12 : Int), .int .u8 (q13 : Int), .int .u8 (q14 : Int), .int .u8 (q15 : Int), .int .i64 ((m : Int) + 1)] : List Value).toArray ?hx rfl ?ht HSF.out HOF.out.1 ?_; (case hx => rfl); (case ht => exact HT.out.1); simp only [List.toList_toArray]; rw [← HW5.out.1])
    | (refine wpList_load_mid rfl 28 _ rfl Q1 0 rfl [.bool v, .int .u8 (q0 : Int), .int .u8 (q1 : Int), .int .u8 (q2 : Int), .int .u8 (q3 : Int), .int .u8 (q4 : Int), .int .u8 (q5 : Int), .int .u8 (q6 : Int), .int .u8 (q7 : Int), .int .u8 (q8 : Int), .int .u8 (q9 : Int), .int .u8 (q10 : Int), .int .u8 (q11 : Int), .int .u8 (q12 : Int), .int .u8 (q13 : Int), .int .u8 (q14 : Int), .int .u8 (q15 : Int), .int .i64 ((m : Int) + 1)] _ HL5.out Tryz.underlying28 rfl HSF2.out ?_)
    | (refine' wpList_store_mid rfl 28 _ _ rfl Q2 0 ([.bool v, .int .u8 (q0 : Int), .int .u8 (q1 : Int), .int .u8 (q2 : Int), .int .u8 (q3 : Int), .int .u8 (q4 : Int), .int .u8 (q5 : Int), .int .u8 (q6 : Int), .int .u8 (q7 : Int), .int .u8 (q8 : Int), .int .u8 (q9 : Int), .int .u8 (q10 : Int), .int .u8 (q11 : Int), .int .u8 (q12 : Int), .int .u8 (q13 : Int), .int .u8 (q14 : Int), .int .u8 (q15 : Int), .int .i64 ((m : Int) + 1)] : List Value).toArray ?hx rfl ?ht HSF.out HOF.out.1 ?_; (case hx => rfl); (case ht => exact HT.out.2); simp only [List.toList_toArray]; rw [← HW5.out.2]))
  obtain ⟨x17, xb, xf⟩ := X6.out
  clear x3
  obtain ⟨kd, hkd⟩ : ∃ kd, kd = m / 8 := ⟨_, rfl⟩
  obtain ⟨km, hkm⟩ : ∃ km, km = m % 8 := ⟨_, rfl⟩
  have hd8 : (m : Int) / 8 = (kd : Int) := by omega
  have hm8 : (m : Int) % 8 = (km : Int) := by omega
  have hm9 : (m : Int).tmod 8 = (km : Int) := by rw [Int.tmod_eq_emod_of_nonneg m0]; exact hm8
  have hd9 : IntKind.i64.wrap (kd : Int) = (kd : Int) := by rw [IntKind.wrap_i64]; omega
  have hd80 : (0 : Int) ≤ (kd : Int) := by omega
  have hd81 : (kd : Int) < 16 := by omega
  have hm80 : (0 : Int) ≤ (km : Int) := by omega
  rw [← hkd] at xb xf
  rw [← hkm] at hor
  have HKD := Lib.hid hkd
  clear hkd hkm
  go_still_tail 15, (by kernel_rfl)
  go_wp2_with fail
  have b7 := (BR6.out.put (1 + kd) (.int .u8 ((y : Nat) : Int))).drew
  rw [HKD.out, HSET.out] at b7
  obtain ⟨w7, hw7⟩ : ∃ w7, w7 = (w6.setCell ⟨Q2, 1 + kd, none⟩ (.int .u8 ((y : Nat) : Int))).drew := ⟨_, rfl⟩
  have k7 : Keeps (· = Q2) w6 w7 := by rw [hw7]; exact (Keeps.here _).drew
  rw [← HKD.out, ← hw7] at b7
  rw [← hw7]
  have BP7 := Lib.hid (Blk.keeps BP6.out k7 HQ.out.2.1)
  have BQ7 := Lib.hid (Blk.keeps BQ6.out k7 HQ.out.2.2)
  have BR7 := Lib.hid b7
  have K7 := Lib.hid (K6.out.trans (k7.mono (fun x _ e => .inr e)))
  clear hw7 k7 b7 x17 xb xf hor hxl
  go_wp2_with fail
  refine wp_region_held_drew (S := fun w' => w'.rangeAt Q1 0 [.bool v, .int .u8 (q0 : Int), .int .u8 (q1 : Int), .int .u8 (q2 : Int), .int .u8 (q3 : Int), .int .u8 (q4 : Int), .int .u8 (q5 : Int), .int .u8 (q6 : Int), .int .u8 (q7 : Int), .int .u8 (q8 : Int), .int .u8 (q9 : Int), .int .u8 (q10 : Int), .int .u8 (q11 : Int), .int .u8 (q12 : Int), .int .u8 (q13 : Int), .int .u8 (q14 : Int), .int .u8 (q15 : Int), .int .i64 ((m : Int) + 1)] ∧ w'.rangeAt Q2 0 [.bool v, .int .u8 (r0 : Int), .int .u8 (r1 : Int), .int .u8 (r2 : Int), .int .u8 (r3 : Int), .int .u8 (r4 : Int), .int .u8 (r5 : Int), .int .u8 (r6 : Int), .int .u8 (r7 : Int), .int .u8 (r8 : Int), .int .u8 (r9 : Int), .int .u8 (r10 : Int), .int .u8 (r11 : Int), .int .u8 (r12 : Int), .int .u8 (r13 : Int), .int .u8 (r14 : Int), .int .u8 (r15 : Int), .int .i64 ((m : Int) + 1)]) (by kernel_rfl) ⟨wh.Blk.range (BQ7.out.drew), wh.Blk.range (BR7.out.drew)⟩ (fun hHeld => ?_)
  refine' wpAnyH_take (i := 0) (v := _) rfl (by kernel_rfl) (by kernel_rfl) (by kernel_rfl) (fun _ _ _ h => h) (yieldsIf_load_mid (by kernel_rfl) _ _ rfl _ _ rfl _ _ (fun w hSw => hSw.1) Tryz.underlying28 rfl HSF2.out) (by assumption) ?_
  try simp only [Act.put, Array.getInternal_eq_getElem, List.getElem_toArray, List.getElem_cons_zero, List.getElem_cons_succ, List.setIfInBounds_toArray, List.set_cons_zero, List.set_cons_succ]
  refine' wpAnyH_take (i := 1) (v := _) rfl (by kernel_rfl) (by kernel_rfl) (by kernel_rfl) (fun _ _ _ h => h) (yieldsIf_load_mid (by kernel_rfl) _ _ rfl _ _ rfl _ _ (fun w hSw => hSw.2) Tryz.underlying28 rfl HSF3.out) (by assumption) ?_
  try simp only [Act.put, Array.getInternal_eq_getElem, List.getElem_toArray, List.getElem_cons_zero, List.getElem_cons_succ, List.setIfInBounds_toArray, List.set_cons_zero, List.set_cons_succ]
  have HT4 := two_over (C1 := [.bool v, .int .u8 (q0 : Int), .int .u8 (q1 : Int), .int .u8 (q2 : Int), .int .u8 (q3 : Int), .int .u8 (q4 : Int), .int .u8 (q5 : Int), .int .u8 (q6 : Int), .int .u8 (q7 : Int), .int .u8 (q8 : Int), .int .u8 (q9 : Int), .int .u8 (q10 : Int), .int .u8 (q11 : Int), .int .u8 (q12 : Int), .int .u8 (q13 : Int), .int .u8 (q14 : Int), .int .u8 (q15 : Int), .int .i64 ((m : Int) + 1)]) (C2 := [.bool v, .int .u8 (r0 : Int), .int .u8 (r1 : Int), .int .u8 (r2 : Int), .int .u8 (r3 : Int), .int .u8 (r4 : Int), .int .u8 (r5 : Int), .int .u8 (r6 : Int), .int .u8 (r7 : Int), .int .u8 (r8 : Int), .int .u8 (r9 : Int), .int .u8 (r10 : Int), .int .u8 (r11 : Int), .int .u8 (r12 : Int), .int .u8 (r13 : Int), .int .u8 (r14 : Int), .int .u8 (r15 : Int), .int .i64 ((m : Int) + 1)]) (BP7.out.drew) (BQ7.out.drew) (BR7.out.drew) rfl rfl HQ.out.1 HQ.out.2.1 HQ.out.2.2
  obtain ⟨w8, hw8⟩ : ∃ w8, w8 = w7.drew.setCells Q1 0 [.bool v, .int .u8 (q0 : Int), .int .u8 (q1 : Int), .int .u8 (q2 : Int), .int .u8 (q3 : Int), .int .u8 (q4 : Int), .int .u8 (q5 : Int), .int .u8 (q6 : Int), .int .u8 (q7 : Int), .int .u8 (q8 : Int), .int .u8 (q9 : Int), .int .u8 (q10 : Int), .int .u8 (q11 : Int), .int .u8 (q12 : Int), .int .u8 (q13 : Int), .int .u8 (q14 : Int), .int .u8 (q15 : Int), .int .i64 ((m : Int) + 1)] := ⟨_, rfl⟩
  obtain ⟨w9, hw9⟩ : ∃ w9, w9 = w8.setCells Q2 0 [.bool v, .int .u8 (r0 : Int), .int .u8 (r1 : Int), .int .u8 (r2 : Int), .int .u8 (r3 : Int), .int .u8 (r4 : Int), .int .u8 (r5 : Int), .int .u8 (r6 : Int), .int .u8 (r7 : Int), .int .u8 (r8 : Int), .int .u8 (r9 : Int), .int .u8 (r10 : Int), .int .u8 (r11 : Int), .int .u8 (r12 : Int), .int .u8 (r13 : Int), .int .u8 (r14 : Int), .int .u8 (r15 : Int), .int .i64 ((m : Int) + 1)] := ⟨_, rfl⟩
  rw [← hw8, ← hw9] at HT4
  have HT9 := Lib.hid (And.intro HT4.1 HT4.2.1)
  have B9 := Lib.hid (And.intro HT4.2.2.1 HT4.2.2.2.1)
  have K9 := Lib.hid HT4.2.2.2.2.1
  have HW9 := Lib.hid (And.intro hw8 hw9)
  have HK8 : Hid (w8.rangeAt Q1 0 [.bool v, .int .u8 (q0 : Int), .int .u8 (q1 : Int), .int .u8 (q2 : Int), .int .u8 (q3 : Int), .int .u8 (q4 : Int), .int .u8 (q5 : Int), .int .u8 (q6 : Int), .int .u8 (q7 : Int), .int .u8 (q8 : Int), .int .u8 (q9 : Int), .int .u8 (q10 : Int), .int .u8 (q11 : Int), .int .u8 (q12 : Int), .int .u8 (q13 : Int), .int .u8 (q14 : Int), .int .u8 (q15 : Int), .int .i64 ((m : Int) + 1)] ∧ w8.rangeAt Q2 0 [.bool v, .int .u8 (r0 : Int), .int .u8 (r1 : Int), .int .u8 (r2 : Int), .int .u8 (r3 : Int), .int .u8 (r4 : Int), .int .u8 (r5 : Int), .int .u8 (r6 : Int), .int .u8 (r7 : Int), .int .u8 (r8 : Int), .int .u8 (r9 : Int), .int .u8 (r10 : Int), .int .u8 (r11 : Int), .int .u8 (r12 : Int), .int .u8 (r13 : Int), .int .u8 (r14 : Int), .int .u8 (r15 : Int), .int .i64 ((m : Int) + 1)]) := Lib.hid (by
    obtain ⟨_, b9, k9⟩ := over_all (vs := [.bool v, .int .u8 (q0 : Int), .int .u8 (q1 : Int), .int .u8 (q2 : Int), .int .u8 (q3 : Int), .int .u8 (q4 : Int), .int .u8 (q5 : Int), .int .u8 (q6 : Int), .int .u8 (q7 : Int), .int .u8 (q8 : Int), .int .u8 (q9 : Int), .int .u8 (q10 : Int), .int .u8 (q11 : Int), .int .u8 (q12 : Int), .int .u8 (q13 : Int), .int .u8 (q14 : Int), .int .u8 (q15 : Int), .int .i64 ((m : Int) + 1)]) BQ7.out.drew rfl
    rw [← hw8] at b9 k9
    exact ⟨wh.Blk.range b9, wh.Blk.range (Blk.keeps BR7.out.drew k9 (fun e => HQ.out.2.2 e.symm))⟩)
  have HK9 := Lib.hid (And.intro (wh.Blk.range B9.out.1) (wh.Blk.range B9.out.2))
  clear HT4 hw8 hw9
  refine wpAnyH_ready (rs := [2]) (by kernel_rfl) (by simp) ?_
  refine AllReadyH.cons rfl (fun K hK => ?_) AllReadyH.nil
  (rw [if_pos (by kernel_rfl)]; simp only [Array.getInternal_eq_getElem, List.getElem_toArray, List.getElem_cons_zero, List.getElem_cons_succ]; refine wp_store_mid 28 _ _ rfl Q1 0 ([.bool v, .int .u8 (q0 : Int), .int .u8 (q1 : Int), .int .u8 (q2 : Int), .int .u8 (q3 : Int), .int .u8 (q4 : Int), .int .u8 (q5 : Int), .int .u8 (q6 : Int), .int .u8 (q7 : Int), .int .u8 (q8 : Int), .int .u8 (q9 : Int), .int .u8 (q10 : Int), .int .u8 (q11 : Int), .int .u8 (q12 : Int), .int .u8 (q13 : Int), .int .u8 (q14 : Int), .int .u8 (q15 : Int), .int .i64 ((m : Int) + 1)] : List Value).toArray rfl rfl HT9.out.1 HSF.out HOF.out.1 ?_; simp only [List.toList_toArray, Act.put]; rw [← HW9.out.1])
  refine hK.out _ _ HK8.out (fun hHeld => ?_)
  clear hK K
  try simp only [Act.put, Array.getInternal_eq_getElem, List.getElem_toArray, List.getElem_cons_zero, List.getElem_cons_succ, List.setIfInBounds_toArray, List.set_cons_zero, List.set_cons_succ]
  refine wpAnyH_ready (rs := [3]) (by kernel_rfl) (by simp) ?_
  refine AllReadyH.cons rfl (fun K hK => ?_) AllReadyH.nil
  (rw [if_pos (by kernel_rfl)]; simp only [Array.getInternal_eq_getElem, List.getElem_toArray, List.getElem_cons_zero, List.getElem_cons_succ]; refine wp_store_mid 28 _ _ rfl Q2 0 ([.bool v, .int .u8 (r0 : Int), .int .u8 (r1 : Int), .int .u8 (r2 : Int), .int .u8 (r3 : Int), .int .u8 (r4 : Int), .int .u8 (r5 : Int), .int .u8 (r6 : Int), .int .u8 (r7 : Int), .int .u8 (r8 : Int), .int .u8 (r9 : Int), .int .u8 (r10 : Int), .int .u8 (r11 : Int), .int .u8 (r12 : Int), .int .u8 (r13 : Int), .int .u8 (r14 : Int), .int .u8 (r15 : Int), .int .i64 ((m : Int) + 1)] : List Value).toArray rfl rfl HT9.out.2 HSF.out HOF.out.2 ?_; simp only [List.toList_toArray, Act.put]; rw [← HW9.out.2])
  refine hK.out _ _ HK9.out (fun hHeld => ?_)
  clear hK K
  try simp only [Act.put, Array.getInternal_eq_getElem, List.getElem_toArray, List.getElem_cons_zero, List.getElem_cons_succ, List.setIfInBounds_toArray, List.set_cons_zero, List.set_cons_succ]
  refine wpAnyH_take (i := 4) (v := ?_) rfl (by kernel_rfl) (by kernel_rfl) (by kernel_rfl) (fun _ _ _ h => h) (Or.inl ⟨by kernel_rfl, ?_⟩) (by assumption) ?_
  rotate_left
  · (intro w hSw; (try dsimp only at hSw); go_simp) <;> (try (with_reducible rfl))
  try simp only [Act.put, Array.getInternal_eq_getElem, List.getElem_toArray, List.getElem_cons_zero, List.getElem_cons_succ, List.setIfInBounds_toArray, List.set_cons_zero, List.set_cons_succ]
  refine wpAnyH_done ?_ ?_ _
  · kernel_rfl
  clear hHeld
  go_wp2
  try rw [Exit.noGoto_ret]
  refine bodyPost_ret (ret_two (p := 2) (q := 3) (u := 4) (ty := 28) (by kernel_rfl) _ _ _ Q1 Q2 _ _ _ _ (by rfl) (by rfl) B9.out.1 B9.out.2 Tryz.underlying28 rfl HSF2.out HSF3.out) rfl ?_
  refine ⟨rfl, fun S => ?_⟩
  have kk := K3.out S
  have k9 := (K7.out.drew).trans K9.out
  exact ⟨Nat.le_trans kk.size k9.size, fun x hx hs => by rw [k9.block x (Nat.lt_of_lt_of_le hx kk.size) (by have := HQ2.out; omega), kk.block x hx hs], kk.same.trans k9.same⟩
end
end Go.Proofs.YtgcdhfpbmcfedaaGreatDoor.pf
end
section
set_option linter.unusedVariables false
set_option linter.unusedSimpArgs false
namespace Go.Proofs.YtgcdhfpbmcfedaaGreatDoor.pf
open Go.RowKit Go.Proofs.YtgcdhfpbmcfedaaGreatDoor.oc Go.Proofs.YtgcdhfpbmcfedaaGreatDoor.mz Go.Proofs.YtgcdhfpbmcfedaaGreatDoor.wh Go.Proofs.YtgcdhfpbmcfedaaGreatDoor.qk
/-- what whole answers -/
def whole (a b : Px) : Px × Bool := if a.bits = 0 then (zeroP, false) else (ofP a.a (a.bits.toNat - 1), decide (a = half0 (ofP a.a (a.bits.toNat - 1))) && decide (b = half1 (ofP a.a (a.bits.toNat - 1))))
/-- prefixes as cells -/
def pxs (l : List Px) : List Value := l.flatMap pxc
theorem pxs_snoc (l : List Px) (p : Px) : pxs (l ++ [p]) = pxs l ++ pxc p := by simp [pxs]
theorem pxs_len : ∀ (l : List Px), (∀ p ∈ l, p.a.Wf) → (pxs l).length = l.length * 18
  | [], _ => rfl
  | p :: r, h => by
    have := pxs_len r (fun q hq => h q (List.mem_cons_of_mem _ hq))
    have e : pxs (p :: r) = pxc p ++ pxs r := rfl
    rw [e, List.length_append, this, pxc_len (h p (by simp)), List.length_cons]
    omega
/-- a row of prefixes, of the call's own from B on -/
structure Pm (B : Nat) (w : World) (v : Value) (l : List Px) : Prop where
  own : w.ownsRow B 28 18 v l.length (pxs l)
  wf : ∀ p ∈ l, p.a.Wf
theorem Pm.nil_ (B : Nat) (w : World) : Pm B w (.slice none 0 0) [] := ⟨World.ownsRow_nil w _ _ _, fun p h => by simp at h⟩
theorem Pm.keeps {S : Nat → Prop} {B : Nat} {w w' : World} {v : Value} {l : List Px} (h : Pm B w v l) (k : Keeps S w w') (hs : ∀ b, v.ownBlock = some b → ¬ S b) : Pm B w' v l := ⟨owns_keeps h.own k hs, h.wf⟩
/-- the last, and what is ahead of it -/
theorem Pm.last {B : Nat} {w : World} {v : Value} {l : List Px} {p : Px} (h : Pm B w v (l ++ [p])) : ∃ g c, v = .slice (some ⟨g, 0, none⟩) (l.length + 1) c ∧ l.length + 1 ≤ c ∧ B ≤ g ∧ g < w.heap.size ∧ w.rangeAt g (l.length * 18) (pxc p) ∧ Pm B w (.slice (some ⟨g, 0, none⟩) l.length c) l := by
  have hwl : ∀ q ∈ l, q.a.Wf := fun q hq => h.wf q (by simp [hq])
  have hw := pxs_len l hwl
  have hp := pxc_len (h.wf p (by simp))
  have ho := h.own
  rw [pxs_snoc] at ho
  rcases ho.2 with ⟨rfl, h0⟩ | ⟨g, cap, cur, rfl, h1, h2, h3, h4, h5, h6⟩
  · simp at h0
  · rw [List.length_append, List.length_singleton] at h3 h6 ⊢
    refine ⟨g, cap, rfl, h3, h1, (Array.getElem?_eq_some_iff.1 h2).1, fun j u hu => ?_, ⟨⟨by rw [hw], .inr ⟨g, cap, cur, rfl, h1, h2, by omega, h4, h5, ?_⟩⟩, hwl⟩⟩
    · have hj : j < 18 := by have := (List.getElem?_eq_some_iff.1 hu).1; omega
      have e : (pxs l ++ pxc p)[l.length * 18 + j]? = some u := by
        rw [List.getElem?_append_right (by omega), hw, Nat.add_sub_cancel_left]; exact hu
      rw [← h6, List.getElem?_take_of_lt (by omega)] at e
      have hb : Blk w g 28 cur.toList := h2
      rw [hb.cell]
      exact e
    · have e : (cur.toList.take ((l.length + 1) * 18)).take (l.length * 18) = cur.toList.take (l.length * 18) := by rw [List.take_take, Nat.min_eq_left (by omega)]
      rw [← e, h6, List.take_append_of_le_length (by omega), List.take_of_length_le (by omega)]
/-- what add answers, the list from its end -/
noncomputable def addR : List Px → Px → List Px
  | [], p => [p]
  | l :: r, p => if coversB l p = true then l :: r else if (whole l p).2 = true then addR r (whole l p).1 else p :: l :: r
/-- what add answers -/
noncomputable def addP (ps : List Px) (p : Px) : List Px := (addR ps.reverse p).reverse
theorem addP_nil (p : Px) : addP [] p = [p] := rfl
theorem addP_snoc (ps : List Px) (l p : Px) : addP (ps ++ [l]) p = if coversB l p = true then ps ++ [l] else if (whole l p).2 = true then addP ps (whole l p).1 else ps ++ [l] ++ [p] := by
  unfold addP
  rw [List.reverse_append, List.reverse_singleton, List.singleton_append, addR]
  split
  · simp
  · split
    · rfl
    · simp
end Go.Proofs.YtgcdhfpbmcfedaaGreatDoor.pf
end
