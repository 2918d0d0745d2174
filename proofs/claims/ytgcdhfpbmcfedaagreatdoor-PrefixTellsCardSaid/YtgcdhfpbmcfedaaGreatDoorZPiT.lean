/-
  PrefixTells: its walk.
-/
import Derived.Test.YtgcdhfpbmcfedaaGreatDoorZPiN
set_option linter.unusedVariables false
set_option linter.unusedSimpArgs false
namespace Go.Proofs.YtgcdhfpbmcfedaaGreatDoor.pf
open Go.RowKit Go.Proofs.YtgcdhfpbmcfedaaGreatDoor.oc Go.Proofs.YtgcdhfpbmcfedaaGreatDoor.mz Go.Proofs.YtgcdhfpbmcfedaaGreatDoor.wh Go.Proofs.YtgcdhfpbmcfedaaGreatDoor.qk
section
variable (w : World)
set_option maxRecDepth 100000 in
set_option maxHeartbeats 3000000 in
theorem walk_prefixTells (p : Px) (hp : p.a.Wf) (hpb : -9223372036854775808 ≤ p.bits ∧ p.bits ≤ 9223372036854775807) (q : Px) (hq : q.a.Wf) (hqb : -9223372036854775808 ≤ q.bits ∧ q.bits ≤ 9223372036854775807) (a : Ad) (ha : a.Wf) (henv : Env w) :
    Calls Tryz.prog 4 #[pv p, pv q, av a] w fun e w' => e = .returned (.bool true) ∧ ∀ S, Keeps S w w' := by
  clear hpb hqb
  obtain ⟨w1, hw1, k1, bb0, bb1, bb2⟩ := boxes3 w (pxc p) (pxc q) (adc a) 28 28 24
  have F0 := px_facts hp bb0
  have Z0 := Lib.hid (px_sz hp)
  have ZA0 := Lib.hid (ad_sz hp)
  have F1 := px_facts hq bb1
  have Z1 := Lib.hid (px_sz hq)
  have ZA1 := Lib.hid (ad_sz hq)
  have F2 := ad_facts bb2
  have Z2 := Lib.hid (ad_sz ha)
  have HW := Lib.hid hw1
  have K1 : Hid (∀ S, Keeps S w w1) := Lib.hid k1
  clear hw1 k1 bb0 bb1 bb2
  have HA1 := fun w => Lib.hid (pcheckaddr_ w a ha)
  have HA2 := fun w => Lib.hid (checkaddr_ a w ha)
  have HB1 := fun w => Lib.hid (pcheck_ w p hp)
  have HB2 := fun w => Lib.hid (check_ w p hp)
  have HC1 := fun w => Lib.hid (pcompare_ w p q hp hq)
  have HC2 := fun w => Lib.hid (compare_ w p q hp hq)
  have HD1 := fun w => Lib.hid (phas_ w p a hp ha)
  have HD2 := fun w => Lib.hid (has_ w p a hp ha)
  have HEa := fun w => Lib.hid (phas_ w p q.a hp hq)
  have HEb := fun w => Lib.hid (has_ w p q.a hp hq)
  have HG1 := fun w => Lib.hid (pcovers_ w p q hp hq)
  have HG2 := fun w => Lib.hid (covers_ w p q hp hq)
  have HI1 := fun w => Lib.hid (pcovers_ w q p hq hp)
  have HI2 := fun w => Lib.hid (covers_ w q p hq hp)
  have HJ1 := fun w => Lib.hid (pofa_ w a p.bits ha)
  have HJ2 := fun w => Lib.hid (ofa_ w a p.bits ha)
  have HM2 := fun w => Lib.hid (txa_ w a ha)
  have HO2 := fun w => Lib.hid (txp_ w p hp)
  have HP1 := fun w => Lib.hid (phva_ w p hp)
  have HP2 := fun w => Lib.hid (hva_ w p hp)
  have HM1 := fun w (h : Env w) => Lib.hid (ptxa_ w a ha h)
  have HO1 := fun w (h : Env w) => Lib.hid (ptxp_ w p hp h)
  have HWK := fun w (h : Env w) => Lib.hid (works_ w h)
  have HEV0 := Lib.hid henv
  have hxw := ofA_wf ha p.bits
  have hyw := (hvA_wf hp).1
  have hzw := (hvA_wf hp).2
  generalize (ofA a p.bits).1 = x at *
  generalize (ofA a p.bits).2 = ex at *
  generalize (hvA p).1 = y at *
  generalize (hvA p).2.1 = z at *
  generalize (hvA p).2.2 = ey at *
  generalize str (txA a).1 = s1 at *
  generalize (txA a).2 = e1 at *
  generalize str (txP p).1 = s2 at *
  generalize (txP p).2 = e2 at *
  generalize errA a = ea at *
  generalize errP p = ep at *
  generalize cmp p q = cc at *
  generalize hasB p a = b1 at *
  generalize hasB p q.a = b2 at *
  generalize coversB p q = b3 at *
  generalize coversB q p = b4 at *
  have HNX := fun w => px_neq x x hxw hxw w
  have HEY := fun w => px_eql y y hyw hyw w
  have HEZ := fun w => px_eql z z hzw hzw w
  rw [decide_eq_true (rfl : x = x)] at HNX
  rw [decide_eq_true (rfl : y = y)] at HEY
  rw [decide_eq_true (rfl : z = z)] at HEZ
  clear henv
  unfold pv at HB1 HB2 HC1 HC2 HD1 HD2 HEa HEb HG1 HG2 HI1 HI2 HJ1 HJ2 HO1 HO2 HP1 HP2 HNX HEY HEZ
  unfold av at HA1 HA2 HD1 HD2 HEa HEb HJ1 HJ2 HM1 HM2
  unfold pv av
  generalize p.bits = i0 at *
  generalize q.bits = i1 at *
  generalize hCP : pxc p = CP at *
  have HCP := Lib.hid hCP
  clear hCP
  generalize hAP : adc p.a = AP at *
  have HAP := Lib.hid hAP
  clear hAP
  generalize hCQ : pxc q = CQ at *
  have HCQ := Lib.hid hCQ
  clear hCQ
  generalize hAQ : adc q.a = AQ at *
  have HAQ := Lib.hid hAQ
  clear hAQ
  generalize hCA : adc a = CA at *
  have HCA := Lib.hid hCA
  clear hCA
  generalize hCX : pxc x = CX at *
  have HCX := Lib.hid hCX
  clear hCX
  generalize hAX : adc x.a = AX at *
  have HAX := Lib.hid hAX
  clear hAX
  generalize hCY : pxc y = CY at *
  have HCY := Lib.hid hCY
  clear hCY
  generalize hAY : adc y.a = AY at *
  have HAY := Lib.hid hAY
  clear hAY
  generalize hCZ : pxc z = CZ at *
  have HCZ := Lib.hid hCZ
  clear hCZ
  generalize hAZ : adc z.a = AZ at *
  have HAZ := Lib.hid hAZ
  clear hAZ
  go_enter Tryz.func4, Tryz.ntmps4
  go_wp2_with fail
  rw [← HW.out]
  refine q_region (by kernel_rfl) (by kernel_rfl) (Old.refl w1) ?_
  --@0
  refine q_load (by kernel_rfl) 24 _ rfl (w.heap.size + 1 + 1) 0 rfl CA _ (fun wq hC => (F2 wq hC).1) Tryz.underlying24 rfl Z2.out ?_
  try simp only [Act.put, Array.getInternal_eq_getElem, List.getElem_toArray, List.getElem_cons_zero, List.getElem_cons_succ, List.setIfInBounds_toArray, List.set_cons_zero, List.set_cons_succ]
  --@1
  refine q_call (by kernel_rfl) (fun wq hC => old_call hC (HA1 wq).out) (fun wq => ?_) ?_
  · go_simp <;> (try (with_reducible rfl))
  try simp only [Act.put, Array.getInternal_eq_getElem, List.getElem_toArray, List.getElem_cons_zero, List.getElem_cons_succ, List.setIfInBounds_toArray, List.set_cons_zero, List.set_cons_succ]
  --@2
  refine q_load (by kernel_rfl) 24 _ rfl (w.heap.size + 1 + 1) 0 rfl CA _ (fun wq hC => (F2 wq hC).1) Tryz.underlying24 rfl Z2.out ?_
  try simp only [Act.put, Array.getInternal_eq_getElem, List.getElem_toArray, List.getElem_cons_zero, List.getElem_cons_succ, List.setIfInBounds_toArray, List.set_cons_zero, List.set_cons_succ]
  --@3
  refine q_call (by kernel_rfl) (fun wq hC => old_call hC (HA2 wq).out) (fun wq => ?_) ?_
  · go_simp <;> (try (with_reducible rfl))
  try simp only [Act.put, Array.getInternal_eq_getElem, List.getElem_toArray, List.getElem_cons_zero, List.getElem_cons_succ, List.setIfInBounds_toArray, List.set_cons_zero, List.set_cons_succ]
  --@4
  refine q_any (by kernel_rfl) ?_ (fun wq hC => ?_) ?_
  rotate_left
  · (have hN := trivial; go_simp) <;> (try (with_reducible rfl))
  try simp only [Act.put, Array.getInternal_eq_getElem, List.getElem_toArray, List.getElem_cons_zero, List.getElem_cons_succ, List.setIfInBounds_toArray, List.set_cons_zero, List.set_cons_succ]
  --@5
  refine q_any (by kernel_rfl) ?_ (fun wq hC => ?_) ?_
  rotate_left
  · (go_simp) <;> (try (with_reducible rfl))
  try simp only [Act.put, Array.getInternal_eq_getElem, List.getElem_toArray, List.getElem_cons_zero, List.getElem_cons_succ, List.setIfInBounds_toArray, List.set_cons_zero, List.set_cons_succ]
  --@6
  refine q_load (by kernel_rfl) 28 _ rfl w.heap.size 0 rfl CP _ (fun wq hC => (F0 wq hC).1) Tryz.underlying28 rfl Z0.out ?_
  try simp only [Act.put, Array.getInternal_eq_getElem, List.getElem_toArray, List.getElem_cons_zero, List.getElem_cons_succ, List.setIfInBounds_toArray, List.set_cons_zero, List.set_cons_succ]
  --@7
  refine q_call (by kernel_rfl) (fun wq hC => old_call hC (HB1 wq).out) (fun wq => ?_) ?_
  · go_simp <;> (try (with_reducible rfl))
  try simp only [Act.put, Array.getInternal_eq_getElem, List.getElem_toArray, List.getElem_cons_zero, List.getElem_cons_succ, List.setIfInBounds_toArray, List.set_cons_zero, List.set_cons_succ]
  --@8
  refine q_load (by kernel_rfl) 28 _ rfl w.heap.size 0 rfl CP _ (fun wq hC => (F0 wq hC).1) Tryz.underlying28 rfl Z0.out ?_
  try simp only [Act.put, Array.getInternal_eq_getElem, List.getElem_toArray, List.getElem_cons_zero, List.getElem_cons_succ, List.setIfInBounds_toArray, List.set_cons_zero, List.set_cons_succ]
  --@9
  refine q_call (by kernel_rfl) (fun wq hC => old_call hC (HB2 wq).out) (fun wq => ?_) ?_
  · go_simp <;> (try (with_reducible rfl))
  try simp only [Act.put, Array.getInternal_eq_getElem, List.getElem_toArray, List.getElem_cons_zero, List.getElem_cons_succ, List.setIfInBounds_toArray, List.set_cons_zero, List.set_cons_succ]
  --@10
  refine q_any (by kernel_rfl) ?_ (fun wq hC => ?_) ?_
  rotate_left
  · (have hN := trivial; go_simp) <;> (try (with_reducible rfl))
  try simp only [Act.put, Array.getInternal_eq_getElem, List.getElem_toArray, List.getElem_cons_zero, List.getElem_cons_succ, List.setIfInBounds_toArray, List.set_cons_zero, List.set_cons_succ]
  --@11
  refine q_any (by kernel_rfl) ?_ (fun wq hC => ?_) ?_
  rotate_left
  · (go_simp) <;> (try (with_reducible rfl))
  try simp only [Act.put, Array.getInternal_eq_getElem, List.getElem_toArray, List.getElem_cons_zero, List.getElem_cons_succ, List.setIfInBounds_toArray, List.set_cons_zero, List.set_cons_succ]
  --@12
  refine q_any (by kernel_rfl) ?_ (fun wq hC => ?_) ?_
  rotate_left
  · (go_simp) <;> (try (with_reducible rfl))
  try simp only [Act.put, Array.getInternal_eq_getElem, List.getElem_toArray, List.getElem_cons_zero, List.getElem_cons_succ, List.setIfInBounds_toArray, List.set_cons_zero, List.set_cons_succ]
  --@13
  refine q_load (by kernel_rfl) 28 _ rfl w.heap.size 0 rfl CP _ (fun wq hC => (F0 wq hC).1) Tryz.underlying28 rfl Z0.out ?_
  try simp only [Act.put, Array.getInternal_eq_getElem, List.getElem_toArray, List.getElem_cons_zero, List.getElem_cons_succ, List.setIfInBounds_toArray, List.set_cons_zero, List.set_cons_succ]
  --@14
  refine q_load (by kernel_rfl) 28 _ rfl (w.heap.size + 1) 0 rfl CQ _ (fun wq hC => (F1 wq hC).1) Tryz.underlying28 rfl Z1.out ?_
  try simp only [Act.put, Array.getInternal_eq_getElem, List.getElem_toArray, List.getElem_cons_zero, List.getElem_cons_succ, List.setIfInBounds_toArray, List.set_cons_zero, List.set_cons_succ]
  --@15
  refine q_call (by kernel_rfl) (fun wq hC => old_call hC (HC1 wq).out) (fun wq => ?_) ?_
  · go_simp <;> (try (with_reducible rfl))
  try simp only [Act.put, Array.getInternal_eq_getElem, List.getElem_toArray, List.getElem_cons_zero, List.getElem_cons_succ, List.setIfInBounds_toArray, List.set_cons_zero, List.set_cons_succ]
  --@16
  refine q_load (by kernel_rfl) 28 _ rfl w.heap.size 0 rfl CP _ (fun wq hC => (F0 wq hC).1) Tryz.underlying28 rfl Z0.out ?_
  try simp only [Act.put, Array.getInternal_eq_getElem, List.getElem_toArray, List.getElem_cons_zero, List.getElem_cons_succ, List.setIfInBounds_toArray, List.set_cons_zero, List.set_cons_succ]
  --@17
  refine q_load (by kernel_rfl) 28 _ rfl (w.heap.size + 1) 0 rfl CQ _ (fun wq hC => (F1 wq hC).1) Tryz.underlying28 rfl Z1.out ?_
  try simp only [Act.put, Array.getInternal_eq_getElem, List.getElem_toArray, List.getElem_cons_zero, List.getElem_cons_succ, List.setIfInBounds_toArray, List.set_cons_zero, List.set_cons_succ]
  --@18
  refine q_call (by kernel_rfl) (fun wq hC => old_call hC (HC2 wq).out) (fun wq => ?_) ?_
  · go_simp <;> (try (with_reducible rfl))
  try simp only [Act.put, Array.getInternal_eq_getElem, List.getElem_toArray, List.getElem_cons_zero, List.getElem_cons_succ, List.setIfInBounds_toArray, List.set_cons_zero, List.set_cons_succ]
  --@19
  refine q_any (by kernel_rfl) ?_ (fun wq hC => ?_) ?_
  rotate_left
  · (have hN := trivial; go_simp) <;> (try (with_reducible rfl))
  try simp only [Act.put, Array.getInternal_eq_getElem, List.getElem_toArray, List.getElem_cons_zero, List.getElem_cons_succ, List.setIfInBounds_toArray, List.set_cons_zero, List.set_cons_succ]
  --@20
  refine q_any (by kernel_rfl) ?_ (fun wq hC => ?_) ?_
  rotate_left
  · (go_simp) <;> (try (with_reducible rfl))
  try simp only [Act.put, Array.getInternal_eq_getElem, List.getElem_toArray, List.getElem_cons_zero, List.getElem_cons_succ, List.setIfInBounds_toArray, List.set_cons_zero, List.set_cons_succ]
  --@21
  refine q_any (by kernel_rfl) ?_ (fun wq hC => ?_) ?_
  rotate_left
  · (go_simp) <;> (try (with_reducible rfl))
  try simp only [Act.put, Array.getInternal_eq_getElem, List.getElem_toArray, List.getElem_cons_zero, List.getElem_cons_succ, List.setIfInBounds_toArray, List.set_cons_zero, List.set_cons_succ]
  --@22
  refine q_load (by kernel_rfl) 28 _ rfl w.heap.size 0 rfl CP _ (fun wq hC => (F0 wq hC).1) Tryz.underlying28 rfl Z0.out ?_
  try simp only [Act.put, Array.getInternal_eq_getElem, List.getElem_toArray, List.getElem_cons_zero, List.getElem_cons_succ, List.setIfInBounds_toArray, List.set_cons_zero, List.set_cons_succ]
  --@23
  refine q_load (by kernel_rfl) 24 _ rfl (w.heap.size + 1 + 1) 0 rfl CA _ (fun wq hC => (F2 wq hC).1) Tryz.underlying24 rfl Z2.out ?_
  try simp only [Act.put, Array.getInternal_eq_getElem, List.getElem_toArray, List.getElem_cons_zero, List.getElem_cons_succ, List.setIfInBounds_toArray, List.set_cons_zero, List.set_cons_succ]
  --@24
  refine q_call (by kernel_rfl) (fun wq hC => old_call hC (HD1 wq).out) (fun wq => ?_) ?_
  · go_simp <;> (try (with_reducible rfl))
  try simp only [Act.put, Array.getInternal_eq_getElem, List.getElem_toArray, List.getElem_cons_zero, List.getElem_cons_succ, List.setIfInBounds_toArray, List.set_cons_zero, List.set_cons_succ]
  --@25
  refine q_load (by kernel_rfl) 28 _ rfl w.heap.size 0 rfl CP _ (fun wq hC => (F0 wq hC).1) Tryz.underlying28 rfl Z0.out ?_
  try simp only [Act.put, Array.getInternal_eq_getElem, List.getElem_toArray, List.getElem_cons_zero, List.getElem_cons_succ, List.setIfInBounds_toArray, List.set_cons_zero, List.set_cons_succ]
  --@26
  refine q_load (by kernel_rfl) 24 _ rfl (w.heap.size + 1 + 1) 0 rfl CA _ (fun wq hC => (F2 wq hC).1) Tryz.underlying24 rfl Z2.out ?_
  try simp only [Act.put, Array.getInternal_eq_getElem, List.getElem_toArray, List.getElem_cons_zero, List.getElem_cons_succ, List.setIfInBounds_toArray, List.set_cons_zero, List.set_cons_succ]
  --@27
  refine q_call (by kernel_rfl) (fun wq hC => old_call hC (HD2 wq).out) (fun wq => ?_) ?_
  · go_simp <;> (try (with_reducible rfl))
  try simp only [Act.put, Array.getInternal_eq_getElem, List.getElem_toArray, List.getElem_cons_zero, List.getElem_cons_succ, List.setIfInBounds_toArray, List.set_cons_zero, List.set_cons_succ]
  --@28
  refine q_any (by kernel_rfl) ?_ (fun wq hC => ?_) ?_
  rotate_left
  · (have hN := trivial; go_simp) <;> (try (with_reducible rfl))
  try simp only [Act.put, Array.getInternal_eq_getElem, List.getElem_toArray, List.getElem_cons_zero, List.getElem_cons_succ, List.setIfInBounds_toArray, List.set_cons_zero, List.set_cons_succ]
  --@29
  refine q_any (by kernel_rfl) ?_ (fun wq hC => ?_) ?_
  rotate_left
  · (go_simp) <;> (try (with_reducible rfl))
  try simp only [Act.put, Array.getInternal_eq_getElem, List.getElem_toArray, List.getElem_cons_zero, List.getElem_cons_succ, List.setIfInBounds_toArray, List.set_cons_zero, List.set_cons_succ]
  --@30
  refine q_any (by kernel_rfl) ?_ (fun wq hC => ?_) ?_
  rotate_left
  · (go_simp) <;> (try (with_reducible rfl))
  try simp only [Act.put, Array.getInternal_eq_getElem, List.getElem_toArray, List.getElem_cons_zero, List.getElem_cons_succ, List.setIfInBounds_toArray, List.set_cons_zero, List.set_cons_succ]
  --@31
  refine q_load (by kernel_rfl) 28 _ rfl w.heap.size 0 rfl CP _ (fun wq hC => (F0 wq hC).1) Tryz.underlying28 rfl Z0.out ?_
  try simp only [Act.put, Array.getInternal_eq_getElem, List.getElem_toArray, List.getElem_cons_zero, List.getElem_cons_succ, List.setIfInBounds_toArray, List.set_cons_zero, List.set_cons_succ]
  --@32
  refine q_any (by kernel_rfl) ?_ (fun wq hC => ?_) ?_
  rotate_left
  · (go_simp) <;> (try (with_reducible rfl))
  try simp only [Act.put, Array.getInternal_eq_getElem, List.getElem_toArray, List.getElem_cons_zero, List.getElem_cons_succ, List.setIfInBounds_toArray, List.set_cons_zero, List.set_cons_succ]
  --@33
  refine q_load (by kernel_rfl) 24 _ rfl (w.heap.size + 1) 0 rfl AQ _ (fun wq hC => (F1 wq hC).2.1) Tryz.underlying24 rfl ZA1.out ?_
  try simp only [Act.put, Array.getInternal_eq_getElem, List.getElem_toArray, List.getElem_cons_zero, List.getElem_cons_succ, List.setIfInBounds_toArray, List.set_cons_zero, List.set_cons_succ]
  --@34
  refine q_call (by kernel_rfl) (fun wq hC => old_call hC (HEa wq).out) (fun wq => ?_) ?_
  · go_simp <;> (try (with_reducible rfl))
  try simp only [Act.put, Array.getInternal_eq_getElem, List.getElem_toArray, List.getElem_cons_zero, List.getElem_cons_succ, List.setIfInBounds_toArray, List.set_cons_zero, List.set_cons_succ]
  --@35
  refine q_load (by kernel_rfl) 28 _ rfl w.heap.size 0 rfl CP _ (fun wq hC => (F0 wq hC).1) Tryz.underlying28 rfl Z0.out ?_
  try simp only [Act.put, Array.getInternal_eq_getElem, List.getElem_toArray, List.getElem_cons_zero, List.getElem_cons_succ, List.setIfInBounds_toArray, List.set_cons_zero, List.set_cons_succ]
  --@36
  refine q_any (by kernel_rfl) ?_ (fun wq hC => ?_) ?_
  rotate_left
  · (go_simp) <;> (try (with_reducible rfl))
  try simp only [Act.put, Array.getInternal_eq_getElem, List.getElem_toArray, List.getElem_cons_zero, List.getElem_cons_succ, List.setIfInBounds_toArray, List.set_cons_zero, List.set_cons_succ]
  --@37
  refine q_load (by kernel_rfl) 24 _ rfl (w.heap.size + 1) 0 rfl AQ _ (fun wq hC => (F1 wq hC).2.1) Tryz.underlying24 rfl ZA1.out ?_
  try simp only [Act.put, Array.getInternal_eq_getElem, List.getElem_toArray, List.getElem_cons_zero, List.getElem_cons_succ, List.setIfInBounds_toArray, List.set_cons_zero, List.set_cons_succ]
  --@38
  refine q_call (by kernel_rfl) (fun wq hC => old_call hC (HEb wq).out) (fun wq => ?_) ?_
  · go_simp <;> (try (with_reducible rfl))
  try simp only [Act.put, Array.getInternal_eq_getElem, List.getElem_toArray, List.getElem_cons_zero, List.getElem_cons_succ, List.setIfInBounds_toArray, List.set_cons_zero, List.set_cons_succ]
  --@39
  refine q_any (by kernel_rfl) ?_ (fun wq hC => ?_) ?_
  rotate_left
  · (have hN := trivial; go_simp) <;> (try (with_reducible rfl))
  try simp only [Act.put, Array.getInternal_eq_getElem, List.getElem_toArray, List.getElem_cons_zero, List.getElem_cons_succ, List.setIfInBounds_toArray, List.set_cons_zero, List.set_cons_succ]
  --@40
  refine q_any (by kernel_rfl) ?_ (fun wq hC => ?_) ?_
  rotate_left
  · (go_simp) <;> (try (with_reducible rfl))
  try simp only [Act.put, Array.getInternal_eq_getElem, List.getElem_toArray, List.getElem_cons_zero, List.getElem_cons_succ, List.setIfInBounds_toArray, List.set_cons_zero, List.set_cons_succ]
  --@41
  refine q_any (by kernel_rfl) ?_ (fun wq hC => ?_) ?_
  rotate_left
  · (go_simp) <;> (try (with_reducible rfl))
  try simp only [Act.put, Array.getInternal_eq_getElem, List.getElem_toArray, List.getElem_cons_zero, List.getElem_cons_succ, List.setIfInBounds_toArray, List.set_cons_zero, List.set_cons_succ]
  --@42
  refine q_load (by kernel_rfl) 28 _ rfl w.heap.size 0 rfl CP _ (fun wq hC => (F0 wq hC).1) Tryz.underlying28 rfl Z0.out ?_
  try simp only [Act.put, Array.getInternal_eq_getElem, List.getElem_toArray, List.getElem_cons_zero, List.getElem_cons_succ, List.setIfInBounds_toArray, List.set_cons_zero, List.set_cons_succ]
  --@43
  refine q_load (by kernel_rfl) 28 _ rfl (w.heap.size + 1) 0 rfl CQ _ (fun wq hC => (F1 wq hC).1) Tryz.underlying28 rfl Z1.out ?_
  try simp only [Act.put, Array.getInternal_eq_getElem, List.getElem_toArray, List.getElem_cons_zero, List.getElem_cons_succ, List.setIfInBounds_toArray, List.set_cons_zero, List.set_cons_succ]
  --@44
  refine q_call (by kernel_rfl) (fun wq hC => old_call hC (HG1 wq).out) (fun wq => ?_) ?_
  · go_simp <;> (try (with_reducible rfl))
  try simp only [Act.put, Array.getInternal_eq_getElem, List.getElem_toArray, List.getElem_cons_zero, List.getElem_cons_succ, List.setIfInBounds_toArray, List.set_cons_zero, List.set_cons_succ]
  --@45
  refine q_load (by kernel_rfl) 28 _ rfl w.heap.size 0 rfl CP _ (fun wq hC => (F0 wq hC).1) Tryz.underlying28 rfl Z0.out ?_
  try simp only [Act.put, Array.getInternal_eq_getElem, List.getElem_toArray, List.getElem_cons_zero, List.getElem_cons_succ, List.setIfInBounds_toArray, List.set_cons_zero, List.set_cons_succ]
  --@46
  refine q_load (by kernel_rfl) 28 _ rfl (w.heap.size + 1) 0 rfl CQ _ (fun wq hC => (F1 wq hC).1) Tryz.underlying28 rfl Z1.out ?_
  try simp only [Act.put, Array.getInternal_eq_getElem, List.getElem_toArray, List.getElem_cons_zero, List.getElem_cons_succ, List.setIfInBounds_toArray, List.set_cons_zero, List.set_cons_succ]
  --@47
  refine q_call (by kernel_rfl) (fun wq hC => old_call hC (HG2 wq).out) (fun wq => ?_) ?_
  · go_simp <;> (try (with_reducible rfl))
  try simp only [Act.put, Array.getInternal_eq_getElem, List.getElem_toArray, List.getElem_cons_zero, List.getElem_cons_succ, List.setIfInBounds_toArray, List.set_cons_zero, List.set_cons_succ]
  --@48
  refine q_any (by kernel_rfl) ?_ (fun wq hC => ?_) ?_
  rotate_left
  · (have hN := trivial; go_simp) <;> (try (with_reducible rfl))
  try simp only [Act.put, Array.getInternal_eq_getElem, List.getElem_toArray, List.getElem_cons_zero, List.getElem_cons_succ, List.setIfInBounds_toArray, List.set_cons_zero, List.set_cons_succ]
  --@49
  refine q_any (by kernel_rfl) ?_ (fun wq hC => ?_) ?_
  rotate_left
  · (go_simp) <;> (try (with_reducible rfl))
  try simp only [Act.put, Array.getInternal_eq_getElem, List.getElem_toArray, List.getElem_cons_zero, List.getElem_cons_succ, List.setIfInBounds_toArray, List.set_cons_zero, List.set_cons_succ]
  --@50
  refine q_any (by kernel_rfl) ?_ (fun wq hC => ?_) ?_
  rotate_left
  · (go_simp) <;> (try (with_reducible rfl))
  try simp only [Act.put, Array.getInternal_eq_getElem, List.getElem_toArray, List.getElem_cons_zero, List.getElem_cons_succ, List.setIfInBounds_toArray, List.set_cons_zero, List.set_cons_succ]
  --@51
  refine q_load (by kernel_rfl) 28 _ rfl (w.heap.size + 1) 0 rfl CQ _ (fun wq hC => (F1 wq hC).1) Tryz.underlying28 rfl Z1.out ?_
  try simp only [Act.put, Array.getInternal_eq_getElem, List.getElem_toArray, List.getElem_cons_zero, List.getElem_cons_succ, List.setIfInBounds_toArray, List.set_cons_zero, List.set_cons_succ]
  --@52
  refine q_load (by kernel_rfl) 28 _ rfl w.heap.size 0 rfl CP _ (fun wq hC => (F0 wq hC).1) Tryz.underlying28 rfl Z0.out ?_
  try simp only [Act.put, Array.getInternal_eq_getElem, List.getElem_toArray, List.getElem_cons_zero, List.getElem_cons_succ, List.setIfInBounds_toArray, List.set_cons_zero, List.set_cons_succ]
  --@53
  refine q_call (by kernel_rfl) (fun wq hC => old_call hC (HI1 wq).out) (fun wq => ?_) ?_
  · go_simp <;> (try (with_reducible rfl))
  try simp only [Act.put, Array.getInternal_eq_getElem, List.getElem_toArray, List.getElem_cons_zero, List.getElem_cons_succ, List.setIfInBounds_toArray, List.set_cons_zero, List.set_cons_succ]
  --@54
  refine q_load (by kernel_rfl) 28 _ rfl (w.heap.size + 1) 0 rfl CQ _ (fun wq hC => (F1 wq hC).1) Tryz.underlying28 rfl Z1.out ?_
  try simp only [Act.put, Array.getInternal_eq_getElem, List.getElem_toArray, List.getElem_cons_zero, List.getElem_cons_succ, List.setIfInBounds_toArray, List.set_cons_zero, List.set_cons_succ]
  --@55
  refine q_load (by kernel_rfl) 28 _ rfl w.heap.size 0 rfl CP _ (fun wq hC => (F0 wq hC).1) Tryz.underlying28 rfl Z0.out ?_
  try simp only [Act.put, Array.getInternal_eq_getElem, List.getElem_toArray, List.getElem_cons_zero, List.getElem_cons_succ, List.setIfInBounds_toArray, List.set_cons_zero, List.set_cons_succ]
  --@56
  refine q_call (by kernel_rfl) (fun wq hC => old_call hC (HI2 wq).out) (fun wq => ?_) ?_
  · go_simp <;> (try (with_reducible rfl))
  try simp only [Act.put, Array.getInternal_eq_getElem, List.getElem_toArray, List.getElem_cons_zero, List.getElem_cons_succ, List.setIfInBounds_toArray, List.set_cons_zero, List.set_cons_succ]
  --@57
  refine q_any (by kernel_rfl) ?_ (fun wq hC => ?_) ?_
  rotate_left
  · (have hN := trivial; go_simp) <;> (try (with_reducible rfl))
  try simp only [Act.put, Array.getInternal_eq_getElem, List.getElem_toArray, List.getElem_cons_zero, List.getElem_cons_succ, List.setIfInBounds_toArray, List.set_cons_zero, List.set_cons_succ]
  --@58
  refine q_any (by kernel_rfl) ?_ (fun wq hC => ?_) ?_
  rotate_left
  · (go_simp) <;> (try (with_reducible rfl))
  try simp only [Act.put, Array.getInternal_eq_getElem, List.getElem_toArray, List.getElem_cons_zero, List.getElem_cons_succ, List.setIfInBounds_toArray, List.set_cons_zero, List.set_cons_succ]
  refine q_nil ?_
  intro wa kwa
  clear HA1 HA2 HB1 HB2 HC1 HC2 HD1 HD2 HEa HEb HG1 HG2 HI1 HI2
  go_wp2_with ((with_reducible show wpList _ _ _ (⟨some 79, _, _, _, _, _⟩ :: _) _ _); refine x_list kwa ?_)
  --@0
  refine x_load (by kernel_rfl) 24 _ rfl (w.heap.size + 1 + 1) 0 rfl CA _ (fun wq hC => (F2 wq hC).1) Tryz.underlying24 rfl Z2.out ?_
  try simp only [Act.put, Array.getInternal_eq_getElem, List.getElem_toArray, List.getElem_cons_zero, List.getElem_cons_succ, List.setIfInBounds_toArray, List.set_cons_zero, List.set_cons_succ]
  --@1
  refine x_any (by kernel_rfl) ?_ (fun wq hC => ?_) ?_
  rotate_left
  · (go_simp) <;> (try (with_reducible rfl))
  try simp only [Act.put, Array.getInternal_eq_getElem, List.getElem_toArray, List.getElem_cons_zero, List.getElem_cons_succ, List.setIfInBounds_toArray, List.set_cons_zero, List.set_cons_succ]
  --@2
  refine x_any (by kernel_rfl) ?_ (fun wq hC => ?_) ?_
  rotate_left
  · (have hF := (F0 wq hC).2.2.2.1; (try dsimp only at hF); go_simp) <;> (try (with_reducible rfl))
  try simp only [Act.put, Array.getInternal_eq_getElem, List.getElem_toArray, List.getElem_cons_zero, List.getElem_cons_succ, List.setIfInBounds_toArray, List.set_cons_zero, List.set_cons_succ]
  --@3
  refine x_call (by kernel_rfl) (fun wq hC => old_call hC (HJ1 wq).out) (fun wq => ?_) ?_
  · go_simp <;> (try (with_reducible rfl))
  try simp only [Act.put, Array.getInternal_eq_getElem, List.getElem_toArray, List.getElem_cons_zero, List.getElem_cons_succ, List.setIfInBounds_toArray, List.set_cons_zero, List.set_cons_succ]
  --@4
  refine x_any (by kernel_rfl) ?_ (fun wq hC => ?_) ?_
  rotate_left
  · (go_simp) <;> (try (with_reducible rfl))
  try simp only [Act.put, Array.getInternal_eq_getElem, List.getElem_toArray, List.getElem_cons_zero, List.getElem_cons_succ, List.setIfInBounds_toArray, List.set_cons_zero, List.set_cons_succ]
  --@5
  refine x_any (by kernel_rfl) ?_ (fun wq hC => ?_) ?_
  rotate_left
  · (go_simp) <;> (try (with_reducible rfl))
  try simp only [Act.put, Array.getInternal_eq_getElem, List.getElem_toArray, List.getElem_cons_zero, List.getElem_cons_succ, List.setIfInBounds_toArray, List.set_cons_zero, List.set_cons_succ]
  --@6
  refine x_any (by kernel_rfl) ?_ (fun wq hC => ?_) ?_
  rotate_left
  · (go_simp) <;> (try (with_reducible rfl))
  try simp only [Act.put, Array.getInternal_eq_getElem, List.getElem_toArray, List.getElem_cons_zero, List.getElem_cons_succ, List.setIfInBounds_toArray, List.set_cons_zero, List.set_cons_succ]
  refine x_stop ?_
  intro wb kwb
  obtain ⟨b1, hb1, htb1, bbb1, kbb1⟩ := box_px wb x hxw
  have HTb1 := Lib.hid htb1
  have HBb1 := Lib.hid hb1
  have KOb1 : Old w1 b1 := kwb.trans (kbb1 _)
  have Kb1 : Hid (∀ S, Keeps S w b1) := Lib.hid (fun S => (K1.out S).trans (KOb1.all S))
  have HEV := fun (wq : World) (hC : Old b1 wq) => HEV0.out.keeps (fun S => (Kb1.out S).trans (hC.all S))
  have F0_b1 := fun (wq : World) (hC : Old b1 wq) => F0 wq (KOb1.trans hC)
  have F1_b1 := fun (wq : World) (hC : Old b1 wq) => F1 wq (KOb1.trans hC)
  have F2_b1 := fun (wq : World) (hC : Old b1 wq) => F2 wq (KOb1.trans hC)
  have F3 := px_facts hxw bbb1
  have Z3 := Lib.hid (px_sz hxw)
  have ZA3 := Lib.hid (ad_sz hxw)
  clear hb1 htb1 bbb1 kbb1
  rw [HCX.out] at F3 Z3 HTb1 HBb1
  rw [HAX.out] at F3 ZA3
  go_wp2_with (first | (refine wpList_store_mid rfl 28 _ _ rfl wb.heap.size 0 CX.toArray rfl rfl HTb1.out.1 HTb1.out.2.1 HTb1.out.2.2 ?_; rw [← HBb1.out]) | ((with_reducible show wpList _ _ _ (⟨some 86, _, _, _, _, _⟩ :: _) _ _); refine x_list (Old.refl b1) ?_))
  --@0
  refine x_load (by kernel_rfl) 24 _ rfl (w.heap.size + 1 + 1) 0 rfl CA _ (fun wq hC => (F2_b1 wq hC).1) Tryz.underlying24 rfl Z2.out ?_
  try simp only [Act.put, Array.getInternal_eq_getElem, List.getElem_toArray, List.getElem_cons_zero, List.getElem_cons_succ, List.setIfInBounds_toArray, List.set_cons_zero, List.set_cons_succ]
  --@1
  refine x_any (by kernel_rfl) ?_ (fun wq hC => ?_) ?_
  rotate_left
  · (go_simp) <;> (try (with_reducible rfl))
  try simp only [Act.put, Array.getInternal_eq_getElem, List.getElem_toArray, List.getElem_cons_zero, List.getElem_cons_succ, List.setIfInBounds_toArray, List.set_cons_zero, List.set_cons_succ]
  --@2
  refine x_any (by kernel_rfl) ?_ (fun wq hC => ?_) ?_
  rotate_left
  · (have hF := (F0_b1 wq hC).2.2.2.1; (try dsimp only at hF); go_simp) <;> (try (with_reducible rfl))
  try simp only [Act.put, Array.getInternal_eq_getElem, List.getElem_toArray, List.getElem_cons_zero, List.getElem_cons_succ, List.setIfInBounds_toArray, List.set_cons_zero, List.set_cons_succ]
  --@3
  refine x_call (by kernel_rfl) (fun wq hC => old_call hC (HJ2 wq).out) (fun wq => ?_) ?_
  · go_simp <;> (try (with_reducible rfl))
  try simp only [Act.put, Array.getInternal_eq_getElem, List.getElem_toArray, List.getElem_cons_zero, List.getElem_cons_succ, List.setIfInBounds_toArray, List.set_cons_zero, List.set_cons_succ]
  --@4
  refine x_any (by kernel_rfl) ?_ (fun wq hC => ?_) ?_
  rotate_left
  · (go_simp) <;> (try (with_reducible rfl))
  try simp only [Act.put, Array.getInternal_eq_getElem, List.getElem_toArray, List.getElem_cons_zero, List.getElem_cons_succ, List.setIfInBounds_toArray, List.set_cons_zero, List.set_cons_succ]
  --@5
  refine x_any (by kernel_rfl) ?_ (fun wq hC => ?_) ?_
  rotate_left
  · (go_simp) <;> (try (with_reducible rfl))
  try simp only [Act.put, Array.getInternal_eq_getElem, List.getElem_toArray, List.getElem_cons_zero, List.getElem_cons_succ, List.setIfInBounds_toArray, List.set_cons_zero, List.set_cons_succ]
  --@6
  refine x_any (by kernel_rfl) ?_ (fun wq hC => ?_) ?_
  rotate_left
  · (go_simp) <;> (try (with_reducible rfl))
  try simp only [Act.put, Array.getInternal_eq_getElem, List.getElem_toArray, List.getElem_cons_zero, List.getElem_cons_succ, List.setIfInBounds_toArray, List.set_cons_zero, List.set_cons_succ]
  refine x_stop ?_
  intro wc kwc
  obtain ⟨b2, hb2, htb2, bbb2, kbb2⟩ := box_px wc x hxw
  have HTb2 := Lib.hid htb2
  have HBb2 := Lib.hid hb2
  have KOb2 : Old b1 b2 := kwc.trans (kbb2 _)
  have Kb2 : Hid (∀ S, Keeps S w b2) := Lib.hid (fun S => (Kb1.out S).trans (KOb2.all S))
  have HEV := fun (wq : World) (hC : Old b2 wq) => HEV0.out.keeps (fun S => (Kb2.out S).trans (hC.all S))
  have F0_b2 := fun (wq : World) (hC : Old b2 wq) => F0_b1 wq (KOb2.trans hC)
  have F1_b2 := fun (wq : World) (hC : Old b2 wq) => F1_b1 wq (KOb2.trans hC)
  have F2_b2 := fun (wq : World) (hC : Old b2 wq) => F2_b1 wq (KOb2.trans hC)
  have F3_b2 := fun (wq : World) (hC : Old b2 wq) => F3 wq (KOb2.trans hC)
  have F4 := px_facts hxw bbb2
  have Z4 := Lib.hid (px_sz hxw)
  have ZA4 := Lib.hid (ad_sz hxw)
  clear hb2 htb2 bbb2 kbb2
  rw [HCX.out] at F4 Z4 HTb2 HBb2
  rw [HAX.out] at F4 ZA4
  go_wp2_with (first | (refine wpList_store_mid rfl 28 _ _ rfl wc.heap.size 0 CX.toArray rfl rfl HTb2.out.1 HTb2.out.2.1 HTb2.out.2.2 ?_; rw [← HBb2.out]) | ((with_reducible show wpList _ _ _ (⟨some 93, _, _, _, _, _⟩ :: _) _ _); refine x_list (Old.refl b2) ?_))
  --@0
  refine x_load (by kernel_rfl) 24 _ rfl (w.heap.size + 1 + 1) 0 rfl CA _ (fun wq hC => (F2_b2 wq hC).1) Tryz.underlying24 rfl Z2.out ?_
  try simp only [Act.put, Array.getInternal_eq_getElem, List.getElem_toArray, List.getElem_cons_zero, List.getElem_cons_succ, List.setIfInBounds_toArray, List.set_cons_zero, List.set_cons_succ]
  --@1
  refine x_call (by kernel_rfl) (fun wq hC => old_call hC (HM1 wq (HEV wq hC)).out) (fun wq => ?_) ?_
  · go_simp <;> (try (with_reducible rfl))
  try simp only [Act.put, Array.getInternal_eq_getElem, List.getElem_toArray, List.getElem_cons_zero, List.getElem_cons_succ, List.setIfInBounds_toArray, List.set_cons_zero, List.set_cons_succ]
  --@2
  refine x_any (by kernel_rfl) ?_ (fun wq hC => ?_) ?_
  rotate_left
  · (go_simp) <;> (try (with_reducible rfl))
  try simp only [Act.put, Array.getInternal_eq_getElem, List.getElem_toArray, List.getElem_cons_zero, List.getElem_cons_succ, List.setIfInBounds_toArray, List.set_cons_zero, List.set_cons_succ]
  --@3
  refine x_any (by kernel_rfl) ?_ (fun wq hC => ?_) ?_
  rotate_left
  · (go_simp) <;> (try (with_reducible rfl))
  try simp only [Act.put, Array.getInternal_eq_getElem, List.getElem_toArray, List.getElem_cons_zero, List.getElem_cons_succ, List.setIfInBounds_toArray, List.set_cons_zero, List.set_cons_succ]
  --@4
  refine x_any (by kernel_rfl) ?_ (fun wq hC => ?_) ?_
  rotate_left
  · (go_simp) <;> (try (with_reducible rfl))
  try simp only [Act.put, Array.getInternal_eq_getElem, List.getElem_toArray, List.getElem_cons_zero, List.getElem_cons_succ, List.setIfInBounds_toArray, List.set_cons_zero, List.set_cons_succ]
  --@5
  refine x_any (by kernel_rfl) ?_ (fun wq hC => ?_) ?_
  rotate_left
  · (go_simp) <;> (try (with_reducible rfl))
  try simp only [Act.put, Array.getInternal_eq_getElem, List.getElem_toArray, List.getElem_cons_zero, List.getElem_cons_succ, List.setIfInBounds_toArray, List.set_cons_zero, List.set_cons_succ]
  --@6
  refine x_any (by kernel_rfl) ?_ (fun wq hC => ?_) ?_
  rotate_left
  · (go_simp) <;> (try (with_reducible rfl))
  try simp only [Act.put, Array.getInternal_eq_getElem, List.getElem_toArray, List.getElem_cons_zero, List.getElem_cons_succ, List.setIfInBounds_toArray, List.set_cons_zero, List.set_cons_succ]
  refine x_nil ?_
  intro wd kwd
  go_wp2_with ((with_reducible show wpList _ _ _ (⟨some 98, _, _, _, _, _⟩ :: _) _ _); refine x_list kwd ?_)
  --@0
  refine x_load (by kernel_rfl) 24 _ rfl (w.heap.size + 1 + 1) 0 rfl CA _ (fun wq hC => (F2_b2 wq hC).1) Tryz.underlying24 rfl Z2.out ?_
  try simp only [Act.put, Array.getInternal_eq_getElem, List.getElem_toArray, List.getElem_cons_zero, List.getElem_cons_succ, List.setIfInBounds_toArray, List.set_cons_zero, List.set_cons_succ]
  --@1
  refine x_call (by kernel_rfl) (fun wq hC => old_call hC (HM2 wq).out) (fun wq => ?_) ?_
  · go_simp <;> (try (with_reducible rfl))
  try simp only [Act.put, Array.getInternal_eq_getElem, List.getElem_toArray, List.getElem_cons_zero, List.getElem_cons_succ, List.setIfInBounds_toArray, List.set_cons_zero, List.set_cons_succ]
  --@2
  refine x_any (by kernel_rfl) ?_ (fun wq hC => ?_) ?_
  rotate_left
  · (go_simp) <;> (try (with_reducible rfl))
  try simp only [Act.put, Array.getInternal_eq_getElem, List.getElem_toArray, List.getElem_cons_zero, List.getElem_cons_succ, List.setIfInBounds_toArray, List.set_cons_zero, List.set_cons_succ]
  --@3
  refine x_any (by kernel_rfl) ?_ (fun wq hC => ?_) ?_
  rotate_left
  · (go_simp) <;> (try (with_reducible rfl))
  try simp only [Act.put, Array.getInternal_eq_getElem, List.getElem_toArray, List.getElem_cons_zero, List.getElem_cons_succ, List.setIfInBounds_toArray, List.set_cons_zero, List.set_cons_succ]
  --@4
  refine x_any (by kernel_rfl) ?_ (fun wq hC => ?_) ?_
  rotate_left
  · (go_simp) <;> (try (with_reducible rfl))
  try simp only [Act.put, Array.getInternal_eq_getElem, List.getElem_toArray, List.getElem_cons_zero, List.getElem_cons_succ, List.setIfInBounds_toArray, List.set_cons_zero, List.set_cons_succ]
  --@5
  refine x_any (by kernel_rfl) ?_ (fun wq hC => ?_) ?_
  rotate_left
  · (go_simp) <;> (try (with_reducible rfl))
  try simp only [Act.put, Array.getInternal_eq_getElem, List.getElem_toArray, List.getElem_cons_zero, List.getElem_cons_succ, List.setIfInBounds_toArray, List.set_cons_zero, List.set_cons_succ]
  --@6
  refine x_any (by kernel_rfl) ?_ (fun wq hC => ?_) ?_
  rotate_left
  · (go_simp) <;> (try (with_reducible rfl))
  try simp only [Act.put, Array.getInternal_eq_getElem, List.getElem_toArray, List.getElem_cons_zero, List.getElem_cons_succ, List.setIfInBounds_toArray, List.set_cons_zero, List.set_cons_succ]
  refine x_nil ?_
  intro we kwe
  go_wp2_with ((with_reducible show wpList _ _ _ (⟨some 102, _, _, _, _, _⟩ :: _) _ _); refine x_list kwe ?_)
  --@0
  refine x_load (by kernel_rfl) 28 _ rfl wb.heap.size 0 rfl CX _ (fun wq hC => (F3_b2 wq hC).1) Tryz.underlying28 rfl Z3.out ?_
  try simp only [Act.put, Array.getInternal_eq_getElem, List.getElem_toArray, List.getElem_cons_zero, List.getElem_cons_succ, List.setIfInBounds_toArray, List.set_cons_zero, List.set_cons_succ]
  --@1
  refine x_load (by kernel_rfl) 28 _ rfl wc.heap.size 0 rfl CX _ (fun wq hC => (F4 wq hC).1) Tryz.underlying28 rfl Z4.out ?_
  try simp only [Act.put, Array.getInternal_eq_getElem, List.getElem_toArray, List.getElem_cons_zero, List.getElem_cons_succ, List.setIfInBounds_toArray, List.set_cons_zero, List.set_cons_succ]
  --@2
  refine x_any (by kernel_rfl) ?_ (fun wq hC => ?_) ?_
  rotate_left
  · (have hN := HNX; go_simp) <;> (try (with_reducible rfl))
  try simp only [Act.put, Array.getInternal_eq_getElem, List.getElem_toArray, List.getElem_cons_zero, List.getElem_cons_succ, List.setIfInBounds_toArray, List.set_cons_zero, List.set_cons_succ]
  --@3
  refine x_any (by kernel_rfl) ?_ (fun wq hC => ?_) ?_
  rotate_left
  · (go_simp) <;> (try (with_reducible rfl))
  try simp only [Act.put, Array.getInternal_eq_getElem, List.getElem_toArray, List.getElem_cons_zero, List.getElem_cons_succ, List.setIfInBounds_toArray, List.set_cons_zero, List.set_cons_succ]
  --@4
  refine x_any (by kernel_rfl) ?_ (fun wq hC => ?_) ?_
  rotate_left
  · (go_simp) <;> (try (with_reducible rfl))
  try simp only [Act.put, Array.getInternal_eq_getElem, List.getElem_toArray, List.getElem_cons_zero, List.getElem_cons_succ, List.setIfInBounds_toArray, List.set_cons_zero, List.set_cons_succ]
  --@5
  refine x_any (by kernel_rfl) ?_ (fun wq hC => ?_) ?_
  rotate_left
  · (go_simp) <;> (try (with_reducible rfl))
  try simp only [Act.put, Array.getInternal_eq_getElem, List.getElem_toArray, List.getElem_cons_zero, List.getElem_cons_succ, List.setIfInBounds_toArray, List.set_cons_zero, List.set_cons_succ]
  --@6
  refine x_any (by kernel_rfl) ?_ (fun wq hC => ?_) ?_
  rotate_left
  · (have hN := trivial; go_simp) <;> (try (with_reducible rfl))
  try simp only [Act.put, Array.getInternal_eq_getElem, List.getElem_toArray, List.getElem_cons_zero, List.getElem_cons_succ, List.setIfInBounds_toArray, List.set_cons_zero, List.set_cons_succ]
  --@7
  refine x_any (by kernel_rfl) ?_ (fun wq hC => ?_) ?_
  rotate_left
  · (go_simp) <;> (try (with_reducible rfl))
  try simp only [Act.put, Array.getInternal_eq_getElem, List.getElem_toArray, List.getElem_cons_zero, List.getElem_cons_succ, List.setIfInBounds_toArray, List.set_cons_zero, List.set_cons_succ]
  --@8
  refine x_any (by kernel_rfl) ?_ (fun wq hC => ?_) ?_
  rotate_left
  · (go_simp) <;> (try (with_reducible rfl))
  try simp only [Act.put, Array.getInternal_eq_getElem, List.getElem_toArray, List.getElem_cons_zero, List.getElem_cons_succ, List.setIfInBounds_toArray, List.set_cons_zero, List.set_cons_succ]
  --@9
  refine x_any (by kernel_rfl) ?_ (fun wq hC => ?_) ?_
  rotate_left
  · (go_simp) <;> (try (with_reducible rfl))
  try simp only [Act.put, Array.getInternal_eq_getElem, List.getElem_toArray, List.getElem_cons_zero, List.getElem_cons_succ, List.setIfInBounds_toArray, List.set_cons_zero, List.set_cons_succ]
  --@10
  refine x_any (by kernel_rfl) ?_ (fun wq hC => ?_) ?_
  rotate_left
  · (go_simp) <;> (try (with_reducible rfl))
  try simp only [Act.put, Array.getInternal_eq_getElem, List.getElem_toArray, List.getElem_cons_zero, List.getElem_cons_succ, List.setIfInBounds_toArray, List.set_cons_zero, List.set_cons_succ]
  --@11
  refine x_any (by kernel_rfl) ?_ (fun wq hC => ?_) ?_
  rotate_left
  · (have hN := trivial; go_simp) <;> (try (with_reducible rfl))
  try simp only [Act.put, Array.getInternal_eq_getElem, List.getElem_toArray, List.getElem_cons_zero, List.getElem_cons_succ, List.setIfInBounds_toArray, List.set_cons_zero, List.set_cons_succ]
  --@12
  refine x_any (by kernel_rfl) ?_ (fun wq hC => ?_) ?_
  rotate_left
  · (go_simp) <;> (try (with_reducible rfl))
  try simp only [Act.put, Array.getInternal_eq_getElem, List.getElem_toArray, List.getElem_cons_zero, List.getElem_cons_succ, List.setIfInBounds_toArray, List.set_cons_zero, List.set_cons_succ]
  --@13
  refine x_any (by kernel_rfl) ?_ (fun wq hC => ?_) ?_
  rotate_left
  · (go_simp) <;> (try (with_reducible rfl))
  try simp only [Act.put, Array.getInternal_eq_getElem, List.getElem_toArray, List.getElem_cons_zero, List.getElem_cons_succ, List.setIfInBounds_toArray, List.set_cons_zero, List.set_cons_succ]
  --@14
  refine x_any (by kernel_rfl) ?_ (fun wq hC => ?_) ?_
  rotate_left
  · (go_simp) <;> (try (with_reducible rfl))
  try simp only [Act.put, Array.getInternal_eq_getElem, List.getElem_toArray, List.getElem_cons_zero, List.getElem_cons_succ, List.setIfInBounds_toArray, List.set_cons_zero, List.set_cons_succ]
  --@15
  refine x_any (by kernel_rfl) ?_ (fun wq hC => ?_) ?_
  rotate_left
  · (go_simp) <;> (try (with_reducible rfl))
  try simp only [Act.put, Array.getInternal_eq_getElem, List.getElem_toArray, List.getElem_cons_zero, List.getElem_cons_succ, List.setIfInBounds_toArray, List.set_cons_zero, List.set_cons_succ]
  --@16
  refine x_any (by kernel_rfl) ?_ (fun wq hC => ?_) ?_
  rotate_left
  · (have hN := trivial; go_simp) <;> (try (with_reducible rfl))
  try simp only [Act.put, Array.getInternal_eq_getElem, List.getElem_toArray, List.getElem_cons_zero, List.getElem_cons_succ, List.setIfInBounds_toArray, List.set_cons_zero, List.set_cons_succ]
  --@17
  refine x_any (by kernel_rfl) ?_ (fun wq hC => ?_) ?_
  rotate_left
  · (go_simp) <;> (try (with_reducible rfl))
  try simp only [Act.put, Array.getInternal_eq_getElem, List.getElem_toArray, List.getElem_cons_zero, List.getElem_cons_succ, List.setIfInBounds_toArray, List.set_cons_zero, List.set_cons_succ]
  refine x_nil ?_
  intro wf kwf
  go_wp2_with ((with_reducible show wpList _ _ _ (⟨some 121, _, _, _, _, _⟩ :: _) _ _); refine x_list kwf ?_)
  --@0
  refine x_load (by kernel_rfl) 28 _ rfl w.heap.size 0 rfl CP _ (fun wq hC => (F0_b2 wq hC).1) Tryz.underlying28 rfl Z0.out ?_
  try simp only [Act.put, Array.getInternal_eq_getElem, List.getElem_toArray, List.getElem_cons_zero, List.getElem_cons_succ, List.setIfInBounds_toArray, List.set_cons_zero, List.set_cons_succ]
  --@1
  refine x_call (by kernel_rfl) (fun wq hC => old_call hC (HO1 wq (HEV wq hC)).out) (fun wq => ?_) ?_
  · go_simp <;> (try (with_reducible rfl))
  try simp only [Act.put, Array.getInternal_eq_getElem, List.getElem_toArray, List.getElem_cons_zero, List.getElem_cons_succ, List.setIfInBounds_toArray, List.set_cons_zero, List.set_cons_succ]
  --@2
  refine x_any (by kernel_rfl) ?_ (fun wq hC => ?_) ?_
  rotate_left
  · (go_simp) <;> (try (with_reducible rfl))
  try simp only [Act.put, Array.getInternal_eq_getElem, List.getElem_toArray, List.getElem_cons_zero, List.getElem_cons_succ, List.setIfInBounds_toArray, List.set_cons_zero, List.set_cons_succ]
  --@3
  refine x_any (by kernel_rfl) ?_ (fun wq hC => ?_) ?_
  rotate_left
  · (go_simp) <;> (try (with_reducible rfl))
  try simp only [Act.put, Array.getInternal_eq_getElem, List.getElem_toArray, List.getElem_cons_zero, List.getElem_cons_succ, List.setIfInBounds_toArray, List.set_cons_zero, List.set_cons_succ]
  --@4
  refine x_any (by kernel_rfl) ?_ (fun wq hC => ?_) ?_
  rotate_left
  · (go_simp) <;> (try (with_reducible rfl))
  try simp only [Act.put, Array.getInternal_eq_getElem, List.getElem_toArray, List.getElem_cons_zero, List.getElem_cons_succ, List.setIfInBounds_toArray, List.set_cons_zero, List.set_cons_succ]
  --@5
  refine x_any (by kernel_rfl) ?_ (fun wq hC => ?_) ?_
  rotate_left
  · (go_simp) <;> (try (with_reducible rfl))
  try simp only [Act.put, Array.getInternal_eq_getElem, List.getElem_toArray, List.getElem_cons_zero, List.getElem_cons_succ, List.setIfInBounds_toArray, List.set_cons_zero, List.set_cons_succ]
  --@6
  refine x_any (by kernel_rfl) ?_ (fun wq hC => ?_) ?_
  rotate_left
  · (go_simp) <;> (try (with_reducible rfl))
  try simp only [Act.put, Array.getInternal_eq_getElem, List.getElem_toArray, List.getElem_cons_zero, List.getElem_cons_succ, List.setIfInBounds_toArray, List.set_cons_zero, List.set_cons_succ]
  refine x_nil ?_
  intro wg kwg
  go_wp2_with ((with_reducible show wpList _ _ _ (⟨some 126, _, _, _, _, _⟩ :: _) _ _); refine x_list kwg ?_)
  --@0
  refine x_load (by kernel_rfl) 28 _ rfl w.heap.size 0 rfl CP _ (fun wq hC => (F0_b2 wq hC).1) Tryz.underlying28 rfl Z0.out ?_
  try simp only [Act.put, Array.getInternal_eq_getElem, List.getElem_toArray, List.getElem_cons_zero, List.getElem_cons_succ, List.setIfInBounds_toArray, List.set_cons_zero, List.set_cons_succ]
  --@1
  refine x_call (by kernel_rfl) (fun wq hC => old_call hC (HO2 wq).out) (fun wq => ?_) ?_
  · go_simp <;> (try (with_reducible rfl))
  try simp only [Act.put, Array.getInternal_eq_getElem, List.getElem_toArray, List.getElem_cons_zero, List.getElem_cons_succ, List.setIfInBounds_toArray, List.set_cons_zero, List.set_cons_succ]
  --@2
  refine x_any (by kernel_rfl) ?_ (fun wq hC => ?_) ?_
  rotate_left
  · (go_simp) <;> (try (with_reducible rfl))
  try simp only [Act.put, Array.getInternal_eq_getElem, List.getElem_toArray, List.getElem_cons_zero, List.getElem_cons_succ, List.setIfInBounds_toArray, List.set_cons_zero, List.set_cons_succ]
  --@3
  refine x_any (by kernel_rfl) ?_ (fun wq hC => ?_) ?_
  rotate_left
  · (go_simp) <;> (try (with_reducible rfl))
  try simp only [Act.put, Array.getInternal_eq_getElem, List.getElem_toArray, List.getElem_cons_zero, List.getElem_cons_succ, List.setIfInBounds_toArray, List.set_cons_zero, List.set_cons_succ]
  --@4
  refine x_any (by kernel_rfl) ?_ (fun wq hC => ?_) ?_
  rotate_left
  · (go_simp) <;> (try (with_reducible rfl))
  try simp only [Act.put, Array.getInternal_eq_getElem, List.getElem_toArray, List.getElem_cons_zero, List.getElem_cons_succ, List.setIfInBounds_toArray, List.set_cons_zero, List.set_cons_succ]
  --@5
  refine x_any (by kernel_rfl) ?_ (fun wq hC => ?_) ?_
  rotate_left
  · (go_simp) <;> (try (with_reducible rfl))
  try simp only [Act.put, Array.getInternal_eq_getElem, List.getElem_toArray, List.getElem_cons_zero, List.getElem_cons_succ, List.setIfInBounds_toArray, List.set_cons_zero, List.set_cons_succ]
  --@6
  refine x_any (by kernel_rfl) ?_ (fun wq hC => ?_) ?_
  rotate_left
  · (go_simp) <;> (try (with_reducible rfl))
  try simp only [Act.put, Array.getInternal_eq_getElem, List.getElem_toArray, List.getElem_cons_zero, List.getElem_cons_succ, List.setIfInBounds_toArray, List.set_cons_zero, List.set_cons_succ]
  refine x_nil ?_
  intro wi kwi
  go_wp2_with ((with_reducible show wpList _ _ _ (⟨some 131, _, _, _, _, _⟩ :: _) _ _); refine x_list kwi ?_)
  --@0
  refine x_load (by kernel_rfl) 28 _ rfl w.heap.size 0 rfl CP _ (fun wq hC => (F0_b2 wq hC).1) Tryz.underlying28 rfl Z0.out ?_
  try simp only [Act.put, Array.getInternal_eq_getElem, List.getElem_toArray, List.getElem_cons_zero, List.getElem_cons_succ, List.setIfInBounds_toArray, List.set_cons_zero, List.set_cons_succ]
  --@1
  refine x_call (by kernel_rfl) (fun wq hC => old_call hC (HP1 wq).out) (fun wq => ?_) ?_
  · go_simp <;> (try (with_reducible rfl))
  try simp only [Act.put, Array.getInternal_eq_getElem, List.getElem_toArray, List.getElem_cons_zero, List.getElem_cons_succ, List.setIfInBounds_toArray, List.set_cons_zero, List.set_cons_succ]
  --@2
  refine x_any (by kernel_rfl) ?_ (fun wq hC => ?_) ?_
  rotate_left
  · (go_simp) <;> (try (with_reducible rfl))
  try simp only [Act.put, Array.getInternal_eq_getElem, List.getElem_toArray, List.getElem_cons_zero, List.getElem_cons_succ, List.setIfInBounds_toArray, List.set_cons_zero, List.set_cons_succ]
  --@3
  refine x_any (by kernel_rfl) ?_ (fun wq hC => ?_) ?_
  rotate_left
  · (go_simp) <;> (try (with_reducible rfl))
  try simp only [Act.put, Array.getInternal_eq_getElem, List.getElem_toArray, List.getElem_cons_zero, List.getElem_cons_succ, List.setIfInBounds_toArray, List.set_cons_zero, List.set_cons_succ]
  --@4
  refine x_any (by kernel_rfl) ?_ (fun wq hC => ?_) ?_
  rotate_left
  · (go_simp) <;> (try (with_reducible rfl))
  try simp only [Act.put, Array.getInternal_eq_getElem, List.getElem_toArray, List.getElem_cons_zero, List.getElem_cons_succ, List.setIfInBounds_toArray, List.set_cons_zero, List.set_cons_succ]
  --@5
  refine x_any (by kernel_rfl) ?_ (fun wq hC => ?_) ?_
  rotate_left
  · (go_simp) <;> (try (with_reducible rfl))
  try simp only [Act.put, Array.getInternal_eq_getElem, List.getElem_toArray, List.getElem_cons_zero, List.getElem_cons_succ, List.setIfInBounds_toArray, List.set_cons_zero, List.set_cons_succ]
  refine x_stop ?_
  intro wj kwj
  obtain ⟨b3, hb3, htb3, hub3, bbb3, bcb3, kbb3⟩ := box_two_px wj y z hyw hzw
  have HTb3 := Lib.hid htb3
  have HUb3 := Lib.hid hub3
  have HBb3 := Lib.hid hb3
  have KOb3 : Old b2 b3 := kwj.trans (kbb3 _)
  have Kb3 : Hid (∀ S, Keeps S w b3) := Lib.hid (fun S => (Kb2.out S).trans (KOb3.all S))
  have HEV := fun (wq : World) (hC : Old b3 wq) => HEV0.out.keeps (fun S => (Kb3.out S).trans (hC.all S))
  have F0_b3 := fun (wq : World) (hC : Old b3 wq) => F0_b2 wq (KOb3.trans hC)
  have F1_b3 := fun (wq : World) (hC : Old b3 wq) => F1_b2 wq (KOb3.trans hC)
  have F2_b3 := fun (wq : World) (hC : Old b3 wq) => F2_b2 wq (KOb3.trans hC)
  have F3_b3 := fun (wq : World) (hC : Old b3 wq) => F3_b2 wq (KOb3.trans hC)
  have F4_b3 := fun (wq : World) (hC : Old b3 wq) => F4 wq (KOb3.trans hC)
  have F5 := px_facts hyw bbb3
  have Z5 := Lib.hid (px_sz hyw)
  have ZA5 := Lib.hid (ad_sz hyw)
  rw [HCY.out] at F5 Z5
  rw [HAY.out] at F5 ZA5
  have F6 := px_facts hzw bcb3
  have Z6 := Lib.hid (px_sz hzw)
  have ZA6 := Lib.hid (ad_sz hzw)
  rw [HCZ.out] at F6 Z6
  rw [HAZ.out] at F6 ZA6
  rw [HCY.out, HCZ.out] at HBb3
  rw [HCY.out] at HTb3 HUb3
  rw [HCZ.out] at HUb3
  clear hb3 htb3 hub3 bbb3 bcb3 kbb3
  go_wp2_with (first | (refine wpList_store_mid rfl 28 _ _ rfl wj.heap.size 0 CY.toArray rfl rfl HTb3.out.1 HTb3.out.2.1 HTb3.out.2.2 ?_) | (refine wpList_store_mid rfl 28 _ _ rfl (wj.heap.size + 1) 0 CZ.toArray rfl rfl HUb3.out.1 HUb3.out.2.1 HUb3.out.2.2 ?_; rw [← HBb3.out]) | ((with_reducible show wpList _ _ _ (⟨some 137, _, _, _, _, _⟩ :: _) _ _); refine x_list (Old.refl b3) ?_))
  --@0
  refine x_load (by kernel_rfl) 28 _ rfl w.heap.size 0 rfl CP _ (fun wq hC => (F0_b3 wq hC).1) Tryz.underlying28 rfl Z0.out ?_
  try simp only [Act.put, Array.getInternal_eq_getElem, List.getElem_toArray, List.getElem_cons_zero, List.getElem_cons_succ, List.setIfInBounds_toArray, List.set_cons_zero, List.set_cons_succ]
  --@1
  refine x_call (by kernel_rfl) (fun wq hC => old_call hC (HP2 wq).out) (fun wq => ?_) ?_
  · go_simp <;> (try (with_reducible rfl))
  try simp only [Act.put, Array.getInternal_eq_getElem, List.getElem_toArray, List.getElem_cons_zero, List.getElem_cons_succ, List.setIfInBounds_toArray, List.set_cons_zero, List.set_cons_succ]
  --@2
  refine x_any (by kernel_rfl) ?_ (fun wq hC => ?_) ?_
  rotate_left
  · (go_simp) <;> (try (with_reducible rfl))
  try simp only [Act.put, Array.getInternal_eq_getElem, List.getElem_toArray, List.getElem_cons_zero, List.getElem_cons_succ, List.setIfInBounds_toArray, List.set_cons_zero, List.set_cons_succ]
  --@3
  refine x_any (by kernel_rfl) ?_ (fun wq hC => ?_) ?_
  rotate_left
  · (go_simp) <;> (try (with_reducible rfl))
  try simp only [Act.put, Array.getInternal_eq_getElem, List.getElem_toArray, List.getElem_cons_zero, List.getElem_cons_succ, List.setIfInBounds_toArray, List.set_cons_zero, List.set_cons_succ]
  --@4
  refine x_any (by kernel_rfl) ?_ (fun wq hC => ?_) ?_
  rotate_left
  · (go_simp) <;> (try (with_reducible rfl))
  try simp only [Act.put, Array.getInternal_eq_getElem, List.getElem_toArray, List.getElem_cons_zero, List.getElem_cons_succ, List.setIfInBounds_toArray, List.set_cons_zero, List.set_cons_succ]
  --@5
  refine x_any (by kernel_rfl) ?_ (fun wq hC => ?_) ?_
  rotate_left
  · (go_simp) <;> (try (with_reducible rfl))
  try simp only [Act.put, Array.getInternal_eq_getElem, List.getElem_toArray, List.getElem_cons_zero, List.getElem_cons_succ, List.setIfInBounds_toArray, List.set_cons_zero, List.set_cons_succ]
  refine x_stop ?_
  intro wl kwl
  obtain ⟨b4, hb4, htb4, hub4, bbb4, bcb4, kbb4⟩ := box_two_px wl y z hyw hzw
  have HTb4 := Lib.hid htb4
  have HUb4 := Lib.hid hub4
  have HBb4 := Lib.hid hb4
  have KOb4 : Old b3 b4 := kwl.trans (kbb4 _)
  have Kb4 : Hid (∀ S, Keeps S w b4) := Lib.hid (fun S => (Kb3.out S).trans (KOb4.all S))
  have HEV := fun (wq : World) (hC : Old b4 wq) => HEV0.out.keeps (fun S => (Kb4.out S).trans (hC.all S))
  have F0_b4 := fun (wq : World) (hC : Old b4 wq) => F0_b3 wq (KOb4.trans hC)
  have F1_b4 := fun (wq : World) (hC : Old b4 wq) => F1_b3 wq (KOb4.trans hC)
  have F2_b4 := fun (wq : World) (hC : Old b4 wq) => F2_b3 wq (KOb4.trans hC)
  have F3_b4 := fun (wq : World) (hC : Old b4 wq) => F3_b3 wq (KOb4.trans hC)
  have F4_b4 := fun (wq : World) (hC : Old b4 wq) => F4_b3 wq (KOb4.trans hC)
  have F5_b4 := fun (wq : World) (hC : Old b4 wq) => F5 wq (KOb4.trans hC)
  have F6_b4 := fun (wq : World) (hC : Old b4 wq) => F6 wq (KOb4.trans hC)
  have F7 := px_facts hyw bbb4
  have Z7 := Lib.hid (px_sz hyw)
  have ZA7 := Lib.hid (ad_sz hyw)
  rw [HCY.out] at F7 Z7
  rw [HAY.out] at F7 ZA7
  have F8 := px_facts hzw bcb4
  have Z8 := Lib.hid (px_sz hzw)
  have ZA8 := Lib.hid (ad_sz hzw)
  rw [HCZ.out] at F8 Z8
  rw [HAZ.out] at F8 ZA8
  rw [HCY.out, HCZ.out] at HBb4
  rw [HCY.out] at HTb4 HUb4
  rw [HCZ.out] at HUb4
  clear hb4 htb4 hub4 bbb4 bcb4 kbb4
  go_wp2_with (first | (refine wpList_store_mid rfl 28 _ _ rfl wl.heap.size 0 CY.toArray rfl rfl HTb4.out.1 HTb4.out.2.1 HTb4.out.2.2 ?_) | (refine wpList_store_mid rfl 28 _ _ rfl (wl.heap.size + 1) 0 CZ.toArray rfl rfl HUb4.out.1 HUb4.out.2.1 HUb4.out.2.2 ?_; rw [← HBb4.out]) | ((with_reducible show wpList _ _ _ (⟨some 151, _, _, _, _, _⟩ :: _) _ _); refine x_list (Old.refl b4) ?_))
  --@0
  refine x_load (by kernel_rfl) 28 _ rfl wj.heap.size 0 rfl CY _ (fun wq hC => (F5_b4 wq hC).1) Tryz.underlying28 rfl Z5.out ?_
  try simp only [Act.put, Array.getInternal_eq_getElem, List.getElem_toArray, List.getElem_cons_zero, List.getElem_cons_succ, List.setIfInBounds_toArray, List.set_cons_zero, List.set_cons_succ]
  --@1
  refine x_load (by kernel_rfl) 28 _ rfl wl.heap.size 0 rfl CY _ (fun wq hC => (F7 wq hC).1) Tryz.underlying28 rfl Z7.out ?_
  try simp only [Act.put, Array.getInternal_eq_getElem, List.getElem_toArray, List.getElem_cons_zero, List.getElem_cons_succ, List.setIfInBounds_toArray, List.set_cons_zero, List.set_cons_succ]
  --@2
  refine x_any (by kernel_rfl) ?_ (fun wq hC => ?_) ?_
  rotate_left
  · (have hN := HEY; go_simp) <;> (try (with_reducible rfl))
  try simp only [Act.put, Array.getInternal_eq_getElem, List.getElem_toArray, List.getElem_cons_zero, List.getElem_cons_succ, List.setIfInBounds_toArray, List.set_cons_zero, List.set_cons_succ]
  --@3
  refine x_any (by kernel_rfl) ?_ (fun wq hC => ?_) ?_
  rotate_left
  · (go_simp) <;> (try (with_reducible rfl))
  try simp only [Act.put, Array.getInternal_eq_getElem, List.getElem_toArray, List.getElem_cons_zero, List.getElem_cons_succ, List.setIfInBounds_toArray, List.set_cons_zero, List.set_cons_succ]
  --@4
  refine x_any (by kernel_rfl) ?_ (fun wq hC => ?_) ?_
  rotate_left
  · (go_simp) <;> (try (with_reducible rfl))
  try simp only [Act.put, Array.getInternal_eq_getElem, List.getElem_toArray, List.getElem_cons_zero, List.getElem_cons_succ, List.setIfInBounds_toArray, List.set_cons_zero, List.set_cons_succ]
  --@5
  refine x_load (by kernel_rfl) 28 _ rfl (wj.heap.size + 1) 0 rfl CZ _ (fun wq hC => (F6_b4 wq hC).1) Tryz.underlying28 rfl Z6.out ?_
  try simp only [Act.put, Array.getInternal_eq_getElem, List.getElem_toArray, List.getElem_cons_zero, List.getElem_cons_succ, List.setIfInBounds_toArray, List.set_cons_zero, List.set_cons_succ]
  --@6
  refine x_load (by kernel_rfl) 28 _ rfl (wl.heap.size + 1) 0 rfl CZ _ (fun wq hC => (F8 wq hC).1) Tryz.underlying28 rfl Z8.out ?_
  try simp only [Act.put, Array.getInternal_eq_getElem, List.getElem_toArray, List.getElem_cons_zero, List.getElem_cons_succ, List.setIfInBounds_toArray, List.set_cons_zero, List.set_cons_succ]
  --@7
  refine x_any (by kernel_rfl) ?_ (fun wq hC => ?_) ?_
  rotate_left
  · (have hN := HEZ; go_simp) <;> (try (with_reducible rfl))
  try simp only [Act.put, Array.getInternal_eq_getElem, List.getElem_toArray, List.getElem_cons_zero, List.getElem_cons_succ, List.setIfInBounds_toArray, List.set_cons_zero, List.set_cons_succ]
  --@8
  refine x_any (by kernel_rfl) ?_ (fun wq hC => ?_) ?_
  rotate_left
  · (go_simp) <;> (try (with_reducible rfl))
  try simp only [Act.put, Array.getInternal_eq_getElem, List.getElem_toArray, List.getElem_cons_zero, List.getElem_cons_succ, List.setIfInBounds_toArray, List.set_cons_zero, List.set_cons_succ]
  --@9
  refine x_any (by kernel_rfl) ?_ (fun wq hC => ?_) ?_
  rotate_left
  · (go_simp) <;> (try (with_reducible rfl))
  try simp only [Act.put, Array.getInternal_eq_getElem, List.getElem_toArray, List.getElem_cons_zero, List.getElem_cons_succ, List.setIfInBounds_toArray, List.set_cons_zero, List.set_cons_succ]
  --@10
  refine x_any (by kernel_rfl) ?_ (fun wq hC => ?_) ?_
  rotate_left
  · (go_simp) <;> (try (with_reducible rfl))
  try simp only [Act.put, Array.getInternal_eq_getElem, List.getElem_toArray, List.getElem_cons_zero, List.getElem_cons_succ, List.setIfInBounds_toArray, List.set_cons_zero, List.set_cons_succ]
  --@11
  refine x_any (by kernel_rfl) ?_ (fun wq hC => ?_) ?_
  rotate_left
  · (go_simp) <;> (try (with_reducible rfl))
  try simp only [Act.put, Array.getInternal_eq_getElem, List.getElem_toArray, List.getElem_cons_zero, List.getElem_cons_succ, List.setIfInBounds_toArray, List.set_cons_zero, List.set_cons_succ]
  --@12
  refine x_any (by kernel_rfl) ?_ (fun wq hC => ?_) ?_
  rotate_left
  · (have hN := trivial; go_simp) <;> (try (with_reducible rfl))
  try simp only [Act.put, Array.getInternal_eq_getElem, List.getElem_toArray, List.getElem_cons_zero, List.getElem_cons_succ, List.setIfInBounds_toArray, List.set_cons_zero, List.set_cons_succ]
  --@13
  refine x_any (by kernel_rfl) ?_ (fun wq hC => ?_) ?_
  rotate_left
  · (go_simp) <;> (try (with_reducible rfl))
  try simp only [Act.put, Array.getInternal_eq_getElem, List.getElem_toArray, List.getElem_cons_zero, List.getElem_cons_succ, List.setIfInBounds_toArray, List.set_cons_zero, List.set_cons_succ]
  --@14
  refine x_any (by kernel_rfl) ?_ (fun wq hC => ?_) ?_
  rotate_left
  · (go_simp) <;> (try (with_reducible rfl))
  try simp only [Act.put, Array.getInternal_eq_getElem, List.getElem_toArray, List.getElem_cons_zero, List.getElem_cons_succ, List.setIfInBounds_toArray, List.set_cons_zero, List.set_cons_succ]
  --@15
  refine x_call (by kernel_rfl) (fun wq hC => old_call hC (HWK wq (HEV wq hC)).out) (fun wq => ?_) ?_
  · go_simp <;> (try (with_reducible rfl))
  try simp only [Act.put, Array.getInternal_eq_getElem, List.getElem_toArray, List.getElem_cons_zero, List.getElem_cons_succ, List.setIfInBounds_toArray, List.set_cons_zero, List.set_cons_succ]
  --@16
  refine x_any (by kernel_rfl) ?_ (fun wq hC => ?_) ?_
  rotate_left
  · (go_simp) <;> (try (with_reducible rfl))
  try simp only [Act.put, Array.getInternal_eq_getElem, List.getElem_toArray, List.getElem_cons_zero, List.getElem_cons_succ, List.setIfInBounds_toArray, List.set_cons_zero, List.set_cons_succ]
  --@17
  refine x_any (by kernel_rfl) ?_ (fun wq hC => ?_) ?_
  rotate_left
  · (go_simp) <;> (try (with_reducible rfl))
  try simp only [Act.put, Array.getInternal_eq_getElem, List.getElem_toArray, List.getElem_cons_zero, List.getElem_cons_succ, List.setIfInBounds_toArray, List.set_cons_zero, List.set_cons_succ]
  refine x_nil ?_
  intro wz kwz
  have KZ : Hid (∀ S, Keeps S w wz) := Lib.hid (fun S => (Kb4.out S).trans (kwz.all S))
  clear kwz
  go_wp2
  try rw [Exit.noGoto_ret]
  go_ret
  exact ⟨rfl, KZ.out⟩
end
end Go.Proofs.YtgcdhfpbmcfedaaGreatDoor.pf
