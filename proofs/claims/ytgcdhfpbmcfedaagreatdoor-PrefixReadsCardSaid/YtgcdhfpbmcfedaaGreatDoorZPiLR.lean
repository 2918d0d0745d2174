/-
  PrefixReads: its walk.
-/
import Derived.Test.YtgcdhfpbmcfedaaGreatDoorV7
set_option linter.unusedVariables false
set_option linter.unusedSimpArgs false
namespace Go.Proofs.YtgcdhfpbmcfedaaGreatDoor.pf
open Go.RowKit Go.Proofs.YtgcdhfpbmcfedaaGreatDoor.oc Go.Proofs.YtgcdhfpbmcfedaaGreatDoor.mz Go.Proofs.YtgcdhfpbmcfedaaGreatDoor.wh Go.Proofs.YtgcdhfpbmcfedaaGreatDoor.qk
section
variable (w : World)
set_option maxRecDepth 100000 in
set_option maxHeartbeats 8000000 in
theorem walk_prefixReads (l : List Nat) (hl : ∀ x ∈ l, x < 256) (hn : l.length < 140737488355328) (henv : Env w) : Calls Tryz.prog 6 #[.string (str l)] w fun e w' => e = .returned (.bool true) ∧ ∀ S, Keeps S w w' := by
  have H1 := fun w (h : Env w) => Lib.hid (prda_ w l hl hn h)
  have H2 := fun w => Lib.hid (rda_ w l hl hn)
  have H3 := fun w (h : Env w) => Lib.hid (prdp_ w l hl hn h)
  have H4 := fun w => Lib.hid (rdp_ w l hl hn)
  have HW := fun w (h : Env w) => Lib.hid (works_ w h)
  have hxa := rdA_wf l
  have hxp := rdP_wf l
  have HE := Lib.hid henv
  generalize (rdA l).1 = x at *
  generalize (rdA l).2 = i at *
  generalize (rdP l).1 = p at *
  generalize (rdP l).2 = k at *
  generalize str l = s at *
  clear hl hn henv
  unfold av at H1 H2
  unfold pv at H3 H4
  have HN := fun w => addr_eql x x hxa hxa w
  have HM := fun w => px_eql p p hxp hxp w
  rw [decide_eq_true (rfl : x = x)] at HN
  rw [decide_eq_true (rfl : p = p)] at HM
  unfold av at HN
  unfold pv at HM
  have hii : (i == i) = true := by simp
  have hkk : (k == k) = true := by simp
  have HK0 : Hid (∀ S, Keeps S w w) := Lib.hid (fun S => Keeps.refl S w)
  go_enter Tryz.func6, Tryz.ntmps6
  go_wp2_with (fail)
  refine ((H1 w HE.out).out).mono ?_
  rintro e a1 ⟨rfl, k1⟩
  have KA1 : Hid (∀ S, Keeps S w a1) := Lib.hid (fun S => (HK0.out S).trans (k1 S))
  clear k1
  obtain ⟨b1, hb1, ht1, bb1, kb1⟩ := box_ad a1 x hxa
  have HT1 := Lib.hid ht1
  have HB1 := Lib.hid hb1
  have B1_b1 := Lib.hid bb1
  have KB1 : Hid (∀ S, Keeps S w b1) := Lib.hid (fun S => (KA1.out S).trans (kb1 S))
  have HZ1 := Lib.hid (ad_sz hxa)
  clear hb1 ht1 bb1 kb1
  go_wp2_with ((refine wpList_store_mid rfl 24 _ _ rfl a1.heap.size 0 (adc x).toArray rfl rfl HT1.out.1 HT1.out.2.1 HT1.out.2.2 ?_; rw [← HB1.out]))
  refine ((H2 _).out).mono ?_
  rintro e a2 ⟨rfl, k2⟩
  have KA2 : Hid (∀ S, Keeps S w a2) := Lib.hid (fun S => (KB1.out S).trans (k2 S))
  have B1_2 := Lib.hid (Blk.keeps B1_b1.out (k2 (fun _ => False)) (fun z => z))
  clear k2
  obtain ⟨b2, hb2, ht2, bb2, kb2⟩ := box_ad a2 x hxa
  have HT2 := Lib.hid ht2
  have HB2 := Lib.hid hb2
  have B2_b2 := Lib.hid bb2
  have KB2 : Hid (∀ S, Keeps S w b2) := Lib.hid (fun S => (KA2.out S).trans (kb2 S))
  have HZ2 := Lib.hid (ad_sz hxa)
  have B1_b2 := Lib.hid (Blk.keeps B1_2.out (kb2 (fun _ => False)) (fun z => z))
  clear hb2 ht2 bb2 kb2
  go_wp2_with ((refine wpList_store_mid rfl 24 _ _ rfl a2.heap.size 0 (adc x).toArray rfl rfl HT2.out.1 HT2.out.2.1 HT2.out.2.2 ?_; rw [← HB2.out]))
  refine ((H3 b2 (HE.out.keeps KB2.out)).out).mono ?_
  rintro e a3 ⟨rfl, k3⟩
  have KA3 : Hid (∀ S, Keeps S w a3) := Lib.hid (fun S => (KB2.out S).trans (k3 S))
  have B1_3 := Lib.hid (Blk.keeps B1_b2.out (k3 (fun _ => False)) (fun z => z))
  have B2_3 := Lib.hid (Blk.keeps B2_b2.out (k3 (fun _ => False)) (fun z => z))
  clear k3
  obtain ⟨b3, hb3, ht3, bb3, kb3⟩ := box_px a3 p hxp
  have HT3 := Lib.hid ht3
  have HB3 := Lib.hid hb3
  have B3_b3 := Lib.hid bb3
  have KB3 : Hid (∀ S, Keeps S w b3) := Lib.hid (fun S => (KA3.out S).trans (kb3 S))
  have HZ3 := Lib.hid (px_sz hxp)
  have B1_b3 := Lib.hid (Blk.keeps B1_3.out (kb3 (fun _ => False)) (fun z => z))
  have B2_b3 := Lib.hid (Blk.keeps B2_3.out (kb3 (fun _ => False)) (fun z => z))
  clear hb3 ht3 bb3 kb3
  go_wp2_with ((refine wpList_store_mid rfl 28 _ _ rfl a3.heap.size 0 (pxc p).toArray rfl rfl HT3.out.1 HT3.out.2.1 HT3.out.2.2 ?_; rw [← HB3.out]))
  refine ((H4 _).out).mono ?_
  rintro e a4 ⟨rfl, k4⟩
  have KA4 : Hid (∀ S, Keeps S w a4) := Lib.hid (fun S => (KB3.out S).trans (k4 S))
  have B1_4 := Lib.hid (Blk.keeps B1_b3.out (k4 (fun _ => False)) (fun z => z))
  have B2_4 := Lib.hid (Blk.keeps B2_b3.out (k4 (fun _ => False)) (fun z => z))
  have B3_4 := Lib.hid (Blk.keeps B3_b3.out (k4 (fun _ => False)) (fun z => z))
  clear k4
  obtain ⟨b4, hb4, ht4, bb4, kb4⟩ := box_px a4 p hxp
  have HT4 := Lib.hid ht4
  have HB4 := Lib.hid hb4
  have B4_b4 := Lib.hid bb4
  have KB4 : Hid (∀ S, Keeps S w b4) := Lib.hid (fun S => (KA4.out S).trans (kb4 S))
  have HZ4 := Lib.hid (px_sz hxp)
  have B1_b4 := Lib.hid (Blk.keeps B1_4.out (kb4 (fun _ => False)) (fun z => z))
  have B2_b4 := Lib.hid (Blk.keeps B2_4.out (kb4 (fun _ => False)) (fun z => z))
  have B3_b4 := Lib.hid (Blk.keeps B3_4.out (kb4 (fun _ => False)) (fun z => z))
  clear hb4 ht4 bb4 kb4
  have HF : ∀ wq, Old b4 wq → wq.rangeAt a1.heap.size 0 (adc x) ∧ wq.rangeAt a2.heap.size 0 (adc x) ∧ wq.rangeAt a3.heap.size 0 (pxc p) ∧ wq.rangeAt a4.heap.size 0 (pxc p) := fun wq hC => ⟨Blk.range (hC.blk B1_b4.out), Blk.range (hC.blk B2_b4.out), Blk.range (hC.blk B3_b4.out), Blk.range (hC.blk B4_b4.out)⟩
  have HWW := fun (wq : World) (hC : Old b4 wq) => HW wq (HE.out.keeps (fun S => (KB4.out S).trans (hC.all S)))
  generalize hA : adc x = CA at *
  generalize hP : pxc p = CP at *
  clear H1 H2 H3 H4 HW hA hP
  go_wp2_with (first | (refine wpList_store_mid rfl 28 _ _ rfl a4.heap.size 0 CP.toArray rfl rfl HT4.out.1 HT4.out.2.1 HT4.out.2.2 ?_; rw [← HB4.out]) | ((with_reducible show wpList _ _ _ (⟨some 31, _, _, _, _, _⟩ :: _) _ _); refine x_list (Old.refl b4) ?_))
  --@0
  refine x_load (by kernel_rfl) 24 _ rfl a1.heap.size 0 rfl CA _ (fun wq hC => (HF wq hC).1) Tryz.underlying24 rfl HZ1.out ?_
  try simp only [Act.put, Array.getInternal_eq_getElem, List.getElem_toArray, List.getElem_cons_zero, List.getElem_cons_succ, List.setIfInBounds_toArray, List.set_cons_zero, List.set_cons_succ]
  --@1
  refine x_load (by kernel_rfl) 24 _ rfl a2.heap.size 0 rfl CA _ (fun wq hC => (HF wq hC).2.1) Tryz.underlying24 rfl HZ2.out ?_
  try simp only [Act.put, Array.getInternal_eq_getElem, List.getElem_toArray, List.getElem_cons_zero, List.getElem_cons_succ, List.setIfInBounds_toArray, List.set_cons_zero, List.set_cons_succ]
  --@2
  refine x_any (by kernel_rfl) ?_ (fun wq hC => ?_) ?_
  rotate_left
  · (have hN := HN; go_simp) <;> (try (with_reducible rfl))
  try simp only [Act.put, Array.getInternal_eq_getElem, List.getElem_toArray, List.getElem_cons_zero, List.getElem_cons_succ, List.setIfInBounds_toArray, List.set_cons_zero, List.set_cons_succ]
  --@3
  refine x_any (by kernel_rfl) ?_ (fun wq hC => ?_) ?_
  rotate_left
  · (go_simp) <;> (try (with_reducible rfl))
  try simp only [Act.put, Array.getInternal_eq_getElem, List.getElem_toArray, List.getElem_cons_zero, List.getElem_cons_succ, List.setIfInBounds_toArray, List.set_cons_zero, List.set_cons_succ]
  --@4
  refine x_any (by kernel_rfl) ?_ (fun wq hC => ?_) ?_
  rotate_left
  · (go_simp) <;> (try (with_reducible rfl))
  try simp only [Act.put, Array.getInternal_eq_getElem, List.getElem_toArray, List.getElem_cons_zero, List.getElem_cons_succ, List.setIfInBounds_toArray, List.set_cons_zero, List.set_cons_succ]
  --@5
  refine x_any (by kernel_rfl) ?_ (fun wq hC => ?_) ?_
  rotate_left
  · (go_simp) <;> (try (with_reducible rfl))
  try simp only [Act.put, Array.getInternal_eq_getElem, List.getElem_toArray, List.getElem_cons_zero, List.getElem_cons_succ, List.setIfInBounds_toArray, List.set_cons_zero, List.set_cons_succ]
  --@6
  refine x_any (by kernel_rfl) ?_ (fun wq hC => ?_) ?_
  rotate_left
  · (have hN := hii; go_simp) <;> (try (with_reducible rfl))
  try simp only [Act.put, Array.getInternal_eq_getElem, List.getElem_toArray, List.getElem_cons_zero, List.getElem_cons_succ, List.setIfInBounds_toArray, List.set_cons_zero, List.set_cons_succ]
  --@7
  refine x_any (by kernel_rfl) ?_ (fun wq hC => ?_) ?_
  rotate_left
  · (go_simp) <;> (try (with_reducible rfl))
  try simp only [Act.put, Array.getInternal_eq_getElem, List.getElem_toArray, List.getElem_cons_zero, List.getElem_cons_succ, List.setIfInBounds_toArray, List.set_cons_zero, List.set_cons_succ]
  --@8
  refine x_any (by kernel_rfl) ?_ (fun wq hC => ?_) ?_
  rotate_left
  · (go_simp) <;> (try (with_reducible rfl))
  try simp only [Act.put, Array.getInternal_eq_getElem, List.getElem_toArray, List.getElem_cons_zero, List.getElem_cons_succ, List.setIfInBounds_toArray, List.set_cons_zero, List.set_cons_succ]
  --@9
  refine x_load (by kernel_rfl) 28 _ rfl a3.heap.size 0 rfl CP _ (fun wq hC => (HF wq hC).2.2.1) Tryz.underlying28 rfl HZ3.out ?_
  try simp only [Act.put, Array.getInternal_eq_getElem, List.getElem_toArray, List.getElem_cons_zero, List.getElem_cons_succ, List.setIfInBounds_toArray, List.set_cons_zero, List.set_cons_succ]
  --@10
  refine x_load (by kernel_rfl) 28 _ rfl a4.heap.size 0 rfl CP _ (fun wq hC => (HF wq hC).2.2.2) Tryz.underlying28 rfl HZ4.out ?_
  try simp only [Act.put, Array.getInternal_eq_getElem, List.getElem_toArray, List.getElem_cons_zero, List.getElem_cons_succ, List.setIfInBounds_toArray, List.set_cons_zero, List.set_cons_succ]
  --@11
  refine x_any (by kernel_rfl) ?_ (fun wq hC => ?_) ?_
  rotate_left
  · (have hN := HM; go_simp) <;> (try (with_reducible rfl))
  try simp only [Act.put, Array.getInternal_eq_getElem, List.getElem_toArray, List.getElem_cons_zero, List.getElem_cons_succ, List.setIfInBounds_toArray, List.set_cons_zero, List.set_cons_succ]
  --@12
  refine x_any (by kernel_rfl) ?_ (fun wq hC => ?_) ?_
  rotate_left
  · (go_simp) <;> (try (with_reducible rfl))
  try simp only [Act.put, Array.getInternal_eq_getElem, List.getElem_toArray, List.getElem_cons_zero, List.getElem_cons_succ, List.setIfInBounds_toArray, List.set_cons_zero, List.set_cons_succ]
  --@13
  refine x_any (by kernel_rfl) ?_ (fun wq hC => ?_) ?_
  rotate_left
  · (go_simp) <;> (try (with_reducible rfl))
  try simp only [Act.put, Array.getInternal_eq_getElem, List.getElem_toArray, List.getElem_cons_zero, List.getElem_cons_succ, List.setIfInBounds_toArray, List.set_cons_zero, List.set_cons_succ]
  --@14
  refine x_any (by kernel_rfl) ?_ (fun wq hC => ?_) ?_
  rotate_left
  · (go_simp) <;> (try (with_reducible rfl))
  try simp only [Act.put, Array.getInternal_eq_getElem, List.getElem_toArray, List.getElem_cons_zero, List.getElem_cons_succ, List.setIfInBounds_toArray, List.set_cons_zero, List.set_cons_succ]
  --@15
  refine x_any (by kernel_rfl) ?_ (fun wq hC => ?_) ?_
  rotate_left
  · (go_simp) <;> (try (with_reducible rfl))
  try simp only [Act.put, Array.getInternal_eq_getElem, List.getElem_toArray, List.getElem_cons_zero, List.getElem_cons_succ, List.setIfInBounds_toArray, List.set_cons_zero, List.set_cons_succ]
  --@16
  refine x_any (by kernel_rfl) ?_ (fun wq hC => ?_) ?_
  rotate_left
  · (have hN := hkk; go_simp) <;> (try (with_reducible rfl))
  try simp only [Act.put, Array.getInternal_eq_getElem, List.getElem_toArray, List.getElem_cons_zero, List.getElem_cons_succ, List.setIfInBounds_toArray, List.set_cons_zero, List.set_cons_succ]
  --@17
  refine x_any (by kernel_rfl) ?_ (fun wq hC => ?_) ?_
  rotate_left
  · (go_simp) <;> (try (with_reducible rfl))
  try simp only [Act.put, Array.getInternal_eq_getElem, List.getElem_toArray, List.getElem_cons_zero, List.getElem_cons_succ, List.setIfInBounds_toArray, List.set_cons_zero, List.set_cons_succ]
  --@18
  refine x_any (by kernel_rfl) ?_ (fun wq hC => ?_) ?_
  rotate_left
  · (go_simp) <;> (try (with_reducible rfl))
  try simp only [Act.put, Array.getInternal_eq_getElem, List.getElem_toArray, List.getElem_cons_zero, List.getElem_cons_succ, List.setIfInBounds_toArray, List.set_cons_zero, List.set_cons_succ]
  --@19
  refine x_call (by kernel_rfl) (fun wq hC => old_call hC (HWW wq hC).out) (fun wq => ?_) ?_
  · go_simp <;> (try (with_reducible rfl))
  try simp only [Act.put, Array.getInternal_eq_getElem, List.getElem_toArray, List.getElem_cons_zero, List.getElem_cons_succ, List.setIfInBounds_toArray, List.set_cons_zero, List.set_cons_succ]
  --@20
  refine x_any (by kernel_rfl) ?_ (fun wq hC => ?_) ?_
  rotate_left
  · (go_simp) <;> (try (with_reducible rfl))
  try simp only [Act.put, Array.getInternal_eq_getElem, List.getElem_toArray, List.getElem_cons_zero, List.getElem_cons_succ, List.setIfInBounds_toArray, List.set_cons_zero, List.set_cons_succ]
  --@21
  refine x_any (by kernel_rfl) ?_ (fun wq hC => ?_) ?_
  rotate_left
  · (go_simp) <;> (try (with_reducible rfl))
  try simp only [Act.put, Array.getInternal_eq_getElem, List.getElem_toArray, List.getElem_cons_zero, List.getElem_cons_succ, List.setIfInBounds_toArray, List.set_cons_zero, List.set_cons_succ]
  refine x_nil ?_
  intro wz kwz
  have KZ : Hid (∀ S, Keeps S w wz) := Lib.hid (fun S => (KB4.out S).trans (kwz.all S))
  clear kwz HF HWW
  go_wp2
  try rw [Exit.noGoto_ret]
  go_ret
  exact ⟨rfl, KZ.out⟩
end
end Go.Proofs.YtgcdhfpbmcfedaaGreatDoor.pf
