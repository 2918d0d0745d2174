/-
  packet: mayBe put together, Check; the middle.
-/
import Derived.Test.YtidengmcbppcoaaPkC
import Derived.Test.YtidengmcbppcoaaOcPut
set_option linter.unusedVariables false
set_option linter.unusedSimpArgs false
namespace Go.Proofs.Ytidengmcbppcoaa.pk
open Go.RowKit Go.Proofs.Ytidengmcbppcoaa.oc Go.Proofs.Ytidengmcbppcoaa.mz Go.Proofs.Ytidengmcbppcoaa.pf Go.Proofs.Ytidengmcbppcoaa.wh Go.Proofs.Ytidengmcbppcoaa.qk Go.Proofs.Ytidengmcbppcoaa.bys
structure HF2 (w : World) (g : Nat) (h : Hd) (v : Value) (C : List Value) : Prop where
  all : w.rangeAt g 0 C
  pr : w.cell? ⟨g, 34, none⟩ = some (.int .u8 (h.pr : Int))
  dat : w.cell? ⟨g, 42, none⟩ = some v
theorem wi64 {x : Int} (h1 : -9223372036854775808 ≤ x) (h2 : x ≤ 9223372036854775807) : IntKind.i64.wrap x = x := by
  simp only [IntKind.wrap, IntKind.signed, IntKind.bits]
  simp
  omega
section
variable (w : World)
theorem pmids_k (p : Nat) : Calls Try.prog 41 #[.int .u8 (p : Int)] w fun e w' => e = .returned (.int .i64 (mids p : Nat)) ∧ ∀ S, Keeps S w w' := (pmids_ w p).mono fun e w' ⟨a, b⟩ => ⟨a, fun S => by rw [b]; exact Keeps.refl S w⟩
theorem psat_k (p : Nat) : Calls Try.prog 35 #[.int .u8 (p : Int)] w fun e w' => e = .returned (.int .i64 (sat p : Nat)) ∧ ∀ S, Keeps S w w' := (psat_ w p).mono fun e w' ⟨a, b⟩ => ⟨a, fun S => by rw [b]; exact Keeps.refl S w⟩
theorem maybe_ (h : Hd) (v : Value) (hw : h.Wf) : Calls Try.prog 39 #[hvv h v] w fun e w' => e = .returned (.bool (may h)) ∧ ∀ S, Keeps S w w' := by
  by_cases ha : okA h.src
  · by_cases hb : okA h.dst
    · have vv : ¬ h.src.v6 = h.dst.v6 → may h = false := fun q => may_no (fun m => q m.v)
      by_cases hv : h.src.v6 = h.dst.v6
      · have tail : (h4 : h.src.v6 = true) → (hi : ¬ 1048575 < h.id) → Calls Try.prog 39 #[hvv h v] w fun e w' => e = .returned (.bool (may h)) ∧ ∀ S, Keeps S w w' := fun h4 hi => by
          by_cases h6 : h.pr ≠ 6
          · by_cases hf : h.fl = 0
            · by_cases hq : h.seq = 0
              · by_cases h7 : h.pr ≠ 17
                · by_cases hs : h.sp = 0
                  · by_cases hd : h.dp = 0
                    · rw [may_yes ⟨ha, hb, hv, by omega, fun z => by rw [h4] at z; (cases z), fun _ => ⟨hf, hq⟩, fun _ => ⟨hs, hd⟩⟩]; exact maybe_oks w h v hw ha hb hv hi h4 h6 hf hq h7 hs hd
                    · rw [may_no (fun m => hd (m.p (midsN h6 h7)).2)]; exact maybe_dps w h v hw ha hb hv hi h4 h6 hf hq h7 hs hd
                  · rw [may_no (fun m => hs (m.p (midsN h6 h7)).1)]; exact maybe_sps w h v hw ha hb hv hi h4 h6 hf hq h7 hs
                · rw [may_yes ⟨ha, hb, hv, by omega, fun z => by rw [h4] at z; (cases z), fun _ => ⟨hf, hq⟩, fun z => by rw [show h.pr = 17 by omega] at z; cases z⟩]; exact maybe_uds w h v hw ha hb hv hi h4 h6 hf hq (by omega)
              · rw [may_no (fun m => hq (m.f h6).2)]; exact maybe_sqs w h v hw ha hb hv hi h4 h6 hf hq
            · rw [may_no (fun m => hf (m.f h6).1)]; exact maybe_fls w h v hw ha hb hv hi h4 h6 hf
          · rw [may_yes ⟨ha, hb, hv, by omega, fun z => by rw [h4] at z; (cases z), fun z => absurd z (by omega), fun z => by rw [show h.pr = 6 by omega] at z; cases z⟩]; exact maybe_tcs w h v hw ha hb hv hi h4 (by omega)
        have tail4 : (h4 : h.src.v6 = false) → (hi : ¬ 1048575 < h.id) → (hj : ¬ 65535 < h.id) → Calls Try.prog 39 #[hvv h v] w fun e w' => e = .returned (.bool (may h)) ∧ ∀ S, Keeps S w w' := fun h4 hi hj => by
          by_cases h6 : h.pr ≠ 6
          · by_cases hf : h.fl = 0
            · by_cases hq : h.seq = 0
              · by_cases h7 : h.pr ≠ 17
                · by_cases hs : h.sp = 0
                  · by_cases hd : h.dp = 0
                    · rw [may_yes ⟨ha, hb, hv, by omega, fun _ => by omega, fun _ => ⟨hf, hq⟩, fun _ => ⟨hs, hd⟩⟩]; exact maybe_okf w h v hw ha hb hv hi h4 hj h6 hf hq h7 hs hd
                    · rw [may_no (fun m => hd (m.p (midsN h6 h7)).2)]; exact maybe_dpf w h v hw ha hb hv hi h4 hj h6 hf hq h7 hs hd
                  · rw [may_no (fun m => hs (m.p (midsN h6 h7)).1)]; exact maybe_spf w h v hw ha hb hv hi h4 hj h6 hf hq h7 hs
                · rw [may_yes ⟨ha, hb, hv, by omega, fun _ => by omega, fun _ => ⟨hf, hq⟩, fun z => by rw [show h.pr = 17 by omega] at z; cases z⟩]; exact maybe_udf w h v hw ha hb hv hi h4 hj h6 hf hq (by omega)
              · rw [may_no (fun m => hq (m.f h6).2)]; exact maybe_sqf w h v hw ha hb hv hi h4 hj h6 hf hq
            · rw [may_no (fun m => hf (m.f h6).1)]; exact maybe_flf w h v hw ha hb hv hi h4 hj h6 hf
          · rw [may_yes ⟨ha, hb, hv, by omega, fun _ => by omega, fun z => absurd z (by omega), fun z => by rw [show h.pr = 6 by omega] at z; cases z⟩]; exact maybe_tcf w h v hw ha hb hv hi h4 hj (by omega)
        cases h4 : h.src.v6
        · by_cases hi : 1048575 < h.id
          · rw [may_no (fun m => by have := m.i; omega)]; exact maybe_i6f w h v hw ha hb hv h4 hi
          · by_cases hj : 65535 < h.id
            · rw [may_no (fun m => by have := m.j h4; omega)]; exact maybe_i4 w h v hw ha hb hv hi h4 hj
            · exact tail4 h4 hi hj
        · by_cases hi : 1048575 < h.id
          · rw [may_no (fun m => by have := m.i; omega)]; exact maybe_i6t w h v hw ha hb hv h4 hi
          · exact tail h4 hi
      · rw [vv hv]
        cases g1 : h.src.v6 <;> cases g2 : h.dst.v6
        · exact absurd (g1.trans g2.symm) hv
        · exact maybe_vf w h v hw ha hb g1 g2
        · exact maybe_vt w h v hw ha hb g1 g2
        · exact absurd (g1.trans g2.symm) hv
    · rw [may_no (fun m => hb m.b)]; exact maybe_da w h v hw ha hb
  · rw [may_no (fun m => ha m.a)]; exact maybe_sa w h v hw ha
set_option maxRecDepth 100000 in
set_option maxHeartbeats 2000000 in
theorem pchk_no (h : Hd) (A : Option Addr) (n c : Nat) (hw : h.Wf) (hn : n ≤ 140737488355328) (hm : ¬ May h) : Calls Try.prog 17 #[hvv h (.slice A n c)] w fun e w' => e = .returned (.int .i64 2) ∧ ∀ S, Keeps S w w' := by
  obtain ⟨w1, hw1, k1, b1, s1⟩ := box1 w (hcs h (.slice A n c)) 29
  have HM := fun w => Lib.hid (maybe_ w h (.slice A n c) hw)
  rw [may_no hm] at HM
  have HSZ := Lib.hid (hd_sz hw (.slice A n c))
  have HRG := Lib.hid (Blk.range b1)
  have HBK := Lib.hid b1
  have HWF := Lib.hid hw
  have K1 := Lib.hid k1
  have HW := Lib.hid hw1
  unfold hvv at HM ⊢
  clear hw1 k1 b1 s1 hw hm
  generalize hC : hcs h (.slice A n c) = C at *
  go_enter Try.func17, Try.ntmps17
  go_wp2_with (first
    | ((try with_reducible rw [← HW.out]); refine wpList_load_mid rfl 29 _ rfl w.heap.size 0 rfl C _ HRG.out Try.underlying29 rfl HSZ.out ?_))
  refine (HM _).out.mono ?_
  rintro e w2 ⟨rfl, k2⟩
  have K2 : Hid (∀ S, Keeps S w w2) := Lib.hid (fun S => (K1.out S).trans (k2 S))
  clear k2
  go_wp2
  try rw [Exit.noGoto_ret]
  go_ret
  exact ⟨rfl, K2.out⟩
set_option maxRecDepth 100000 in
set_option maxHeartbeats 2000000 in
theorem pchk_long (h : Hd) (A : Option Addr) (n c : Nat) (hw : h.Wf) (hn : n ≤ 140737488355328) (hm : May h) (hl : 2048 < fsz h + mids h.pr + n) : Calls Try.prog 17 #[hvv h (.slice A n c)] w fun e w' => e = .returned (.int .i64 4) ∧ ∀ S, Keeps S w w' := by
  obtain ⟨w1, hw1, k1, b1, s1⟩ := box1 w (hcs h (.slice A n c)) 29
  have HM := fun w => Lib.hid (maybe_ w h (.slice A n c) hw)
  rw [may_yes hm] at HM
  have HSZ := Lib.hid (hd_sz hw (.slice A n c))
  have HRG := Lib.hid (Blk.range b1)
  have HBK := Lib.hid b1
  have HWF := Lib.hid hw
  have K1 := Lib.hid k1
  have HW := Lib.hid hw1
  have HFZ := fun w => Lib.hid (pfsz_ w h (.slice A n c) hw)
  have HMZ := fun w => Lib.hid (pmids_k w h.pr)
  have hf9 : fsz h ≤ 40 := by unfold fsz; split <;> omega
  have hm9 : mids h.pr ≤ 20 := by unfold mids; repeat' split
                                  all_goals omega
  generalize fsz h = fs at *
  generalize mids h.pr = ms at *
  obtain ⟨t1, ht1⟩ : ∃ t1, t1 = fs + ms := ⟨_, rfl⟩
  obtain ⟨t2, ht2⟩ : ∃ t2, t2 = t1 + n := ⟨_, rfl⟩
  have e1 : IntKind.i64.wrap ((fs : Int) + (ms : Int)) = (t1 : Int) := by rw [wi64 (by omega) (by omega)]; omega
  have e2 : IntKind.i64.wrap ((t1 : Int) + (n : Int)) = (t2 : Int) := by rw [wi64 (by omega) (by omega)]; omega
  have dl : (2048 : Int) < (t2 : Int) := by omega
  clear hl ht1 ht2
  unfold hvv at HM HFZ ⊢
  clear hw1 k1 b1 s1 hw hm
  generalize hC : hcs h (.slice A n c) = C at *
  go_enter Try.func17, Try.ntmps17
  go_wp2_with (first
    | ((try with_reducible rw [← HW.out]); refine wpList_load_mid rfl 29 _ rfl w.heap.size 0 rfl C _ HRG.out Try.underlying29 rfl HSZ.out ?_))
  refine (HM _).out.mono ?_
  rintro e w2 ⟨rfl, k2⟩
  have K2 : Hid (∀ S, Keeps S w w2) := Lib.hid (fun S => (K1.out S).trans (k2 S))
  have hb2 := Blk.keeps HBK.out (k2 (fun _ => False)) (fun z => z)
  rw [← hC] at hb2
  have HFF0 := fun (wq : World) (hq : Old w2 wq) => HF.of_blk HWF.out (hq.blk hb2)
  have HFF : ∀ wq, Old w2 wq → HF2 wq w.heap.size h (.slice A n c) C := fun wq hq => ⟨hC ▸ (HFF0 wq hq).all, (HFF0 wq hq).pr, (HFF0 wq hq).dat⟩
  clear k2 hb2 HFF0
  go_wp2_with fail
  refine q_region (by kernel_rfl) (by kernel_rfl) (Old.refl w2) ?_
  --@0
  refine q_load (by kernel_rfl) 29 _ rfl w.heap.size 0 rfl C _ (fun wq hC => (HFF wq hC).all) Try.underlying29 rfl HSZ.out ?_
  try simp only [Act.put, Array.getInternal_eq_getElem, List.getElem_toArray, List.getElem_cons_zero, List.getElem_cons_succ, List.setIfInBounds_toArray, List.set_cons_zero, List.set_cons_succ]
  --@1
  refine q_call (by kernel_rfl) (fun wq hC => old_call hC (HFZ wq).out) (fun wq => ?_) ?_
  · go_simp <;> (try (with_reducible rfl))
  try simp only [Act.put, Array.getInternal_eq_getElem, List.getElem_toArray, List.getElem_cons_zero, List.getElem_cons_succ, List.setIfInBounds_toArray, List.set_cons_zero, List.set_cons_succ]
  --@2
  refine q_any (by kernel_rfl) ?_ (fun wq hC => ?_) ?_
  rotate_left
  · (go_simp) <;> (try (with_reducible rfl))
  try simp only [Act.put, Array.getInternal_eq_getElem, List.getElem_toArray, List.getElem_cons_zero, List.getElem_cons_succ, List.setIfInBounds_toArray, List.set_cons_zero, List.set_cons_succ]
  --@3
  refine q_any (by kernel_rfl) ?_ (fun wq hC => ?_) ?_
  rotate_left
  · (have hF := (HFF wq hC).pr; (try dsimp only at hF); go_simp) <;> (try (with_reducible rfl))
  try simp only [Act.put, Array.getInternal_eq_getElem, List.getElem_toArray, List.getElem_cons_zero, List.getElem_cons_succ, List.setIfInBounds_toArray, List.set_cons_zero, List.set_cons_succ]
  --@4
  refine q_call (by kernel_rfl) (fun wq hC => old_call hC (HMZ wq).out) (fun wq => ?_) ?_
  · go_simp <;> (try (with_reducible rfl))
  try simp only [Act.put, Array.getInternal_eq_getElem, List.getElem_toArray, List.getElem_cons_zero, List.getElem_cons_succ, List.setIfInBounds_toArray, List.set_cons_zero, List.set_cons_succ]
  --@5
  refine q_any (by kernel_rfl) ?_ (fun wq hC => ?_) ?_
  rotate_left
  · (go_simp) <;> (try (with_reducible rfl))
  try simp only [Act.put, Array.getInternal_eq_getElem, List.getElem_toArray, List.getElem_cons_zero, List.getElem_cons_succ, List.setIfInBounds_toArray, List.set_cons_zero, List.set_cons_succ]
  --@6
  refine q_any (by kernel_rfl) ?_ (fun wq hC => ?_) ?_
  rotate_left
  · (go_simp) <;> (try (with_reducible rfl))
  try simp only [Act.put, Array.getInternal_eq_getElem, List.getElem_toArray, List.getElem_cons_zero, List.getElem_cons_succ, List.setIfInBounds_toArray, List.set_cons_zero, List.set_cons_succ]
  --@7
  refine q_any (by kernel_rfl) ?_ (fun wq hC => ?_) ?_
  rotate_left
  · (have hF := (HFF wq hC).dat; (try dsimp only at hF); go_simp) <;> (try (with_reducible rfl))
  try simp only [Act.put, Array.getInternal_eq_getElem, List.getElem_toArray, List.getElem_cons_zero, List.getElem_cons_succ, List.setIfInBounds_toArray, List.set_cons_zero, List.set_cons_succ]
  --@8
  refine q_any (by kernel_rfl) ?_ (fun wq hC => ?_) ?_
  rotate_left
  · (go_simp) <;> (try (with_reducible rfl))
  try simp only [Act.put, Array.getInternal_eq_getElem, List.getElem_toArray, List.getElem_cons_zero, List.getElem_cons_succ, List.setIfInBounds_toArray, List.set_cons_zero, List.set_cons_succ]
  --@9
  refine q_any (by kernel_rfl) ?_ (fun wq hC => ?_) ?_
  rotate_left
  · (go_simp) <;> (try (with_reducible rfl))
  try simp only [Act.put, Array.getInternal_eq_getElem, List.getElem_toArray, List.getElem_cons_zero, List.getElem_cons_succ, List.setIfInBounds_toArray, List.set_cons_zero, List.set_cons_succ]
  --@10
  refine q_any (by kernel_rfl) ?_ (fun wq hC => ?_) ?_
  rotate_left
  · (go_simp) <;> (try (with_reducible rfl))
  try simp only [Act.put, Array.getInternal_eq_getElem, List.getElem_toArray, List.getElem_cons_zero, List.getElem_cons_succ, List.setIfInBounds_toArray, List.set_cons_zero, List.set_cons_succ]
  refine q_nil ?_
  intro wz kwz
  go_wp2
  try rw [Exit.noGoto_ret]
  go_ret
  exact ⟨rfl, fun S => (K2.out S).trans (kwz.all S)⟩
set_option maxRecDepth 100000 in
set_option maxHeartbeats 2000000 in
theorem pchk_ok (h : Hd) (A : Option Addr) (n c : Nat) (hw : h.Wf) (hn : n ≤ 140737488355328) (hm : May h) (hl : ¬ 2048 < fsz h + mids h.pr + n) : Calls Try.prog 17 #[hvv h (.slice A n c)] w fun e w' => e = .returned (.int .i64 0) ∧ ∀ S, Keeps S w w' := by
  obtain ⟨w1, hw1, k1, b1, s1⟩ := box1 w (hcs h (.slice A n c)) 29
  have HM := fun w => Lib.hid (maybe_ w h (.slice A n c) hw)
  rw [may_yes hm] at HM
  have HSZ := Lib.hid (hd_sz hw (.slice A n c))
  have HRG := Lib.hid (Blk.range b1)
  have HBK := Lib.hid b1
  have HWF := Lib.hid hw
  have K1 := Lib.hid k1
  have HW := Lib.hid hw1
  have HFZ := fun w => Lib.hid (pfsz_ w h (.slice A n c) hw)
  have HMZ := fun w => Lib.hid (pmids_k w h.pr)
  have hf9 : fsz h ≤ 40 := by unfold fsz; split <;> omega
  have hm9 : mids h.pr ≤ 20 := by unfold mids; repeat' split
                                  all_goals omega
  generalize fsz h = fs at *
  generalize mids h.pr = ms at *
  obtain ⟨t1, ht1⟩ : ∃ t1, t1 = fs + ms := ⟨_, rfl⟩
  obtain ⟨t2, ht2⟩ : ∃ t2, t2 = t1 + n := ⟨_, rfl⟩
  have e1 : IntKind.i64.wrap ((fs : Int) + (ms : Int)) = (t1 : Int) := by rw [wi64 (by omega) (by omega)]; omega
  have e2 : IntKind.i64.wrap ((t1 : Int) + (n : Int)) = (t2 : Int) := by rw [wi64 (by omega) (by omega)]; omega
  have dl : ¬ (2048 : Int) < (t2 : Int) := by omega
  clear hl ht1 ht2
  unfold hvv at HM HFZ ⊢
  clear hw1 k1 b1 s1 hw hm
  generalize hC : hcs h (.slice A n c) = C at *
  go_enter Try.func17, Try.ntmps17
  go_wp2_with (first
    | ((try with_reducible rw [← HW.out]); refine wpList_load_mid rfl 29 _ rfl w.heap.size 0 rfl C _ HRG.out Try.underlying29 rfl HSZ.out ?_))
  refine (HM _).out.mono ?_
  rintro e w2 ⟨rfl, k2⟩
  have K2 : Hid (∀ S, Keeps S w w2) := Lib.hid (fun S => (K1.out S).trans (k2 S))
  have hb2 := Blk.keeps HBK.out (k2 (fun _ => False)) (fun z => z)
  rw [← hC] at hb2
  have HFF0 := fun (wq : World) (hq : Old w2 wq) => HF.of_blk HWF.out (hq.blk hb2)
  have HFF : ∀ wq, Old w2 wq → HF2 wq w.heap.size h (.slice A n c) C := fun wq hq => ⟨hC ▸ (HFF0 wq hq).all, (HFF0 wq hq).pr, (HFF0 wq hq).dat⟩
  clear k2 hb2 HFF0
  go_wp2_with fail
  refine q_region (by kernel_rfl) (by kernel_rfl) (Old.refl w2) ?_
  --@0
  refine q_load (by kernel_rfl) 29 _ rfl w.heap.size 0 rfl C _ (fun wq hC => (HFF wq hC).all) Try.underlying29 rfl HSZ.out ?_
  try simp only [Act.put, Array.getInternal_eq_getElem, List.getElem_toArray, List.getElem_cons_zero, List.getElem_cons_succ, List.setIfInBounds_toArray, List.set_cons_zero, List.set_cons_succ]
  --@1
  refine q_call (by kernel_rfl) (fun wq hC => old_call hC (HFZ wq).out) (fun wq => ?_) ?_
  · go_simp <;> (try (with_reducible rfl))
  try simp only [Act.put, Array.getInternal_eq_getElem, List.getElem_toArray, List.getElem_cons_zero, List.getElem_cons_succ, List.setIfInBounds_toArray, List.set_cons_zero, List.set_cons_succ]
  --@2
  refine q_any (by kernel_rfl) ?_ (fun wq hC => ?_) ?_
  rotate_left
  · (go_simp) <;> (try (with_reducible rfl))
  try simp only [Act.put, Array.getInternal_eq_getElem, List.getElem_toArray, List.getElem_cons_zero, List.getElem_cons_succ, List.setIfInBounds_toArray, List.set_cons_zero, List.set_cons_succ]
  --@3
  refine q_any (by kernel_rfl) ?_ (fun wq hC => ?_) ?_
  rotate_left
  · (have hF := (HFF wq hC).pr; (try dsimp only at hF); go_simp) <;> (try (with_reducible rfl))
  try simp only [Act.put, Array.getInternal_eq_getElem, List.getElem_toArray, List.getElem_cons_zero, List.getElem_cons_succ, List.setIfInBounds_toArray, List.set_cons_zero, List.set_cons_succ]
  --@4
  refine q_call (by kernel_rfl) (fun wq hC => old_call hC (HMZ wq).out) (fun wq => ?_) ?_
  · go_simp <;> (try (with_reducible rfl))
  try simp only [Act.put, Array.getInternal_eq_getElem, List.getElem_toArray, List.getElem_cons_zero, List.getElem_cons_succ, List.setIfInBounds_toArray, List.set_cons_zero, List.set_cons_succ]
  --@5
  refine q_any (by kernel_rfl) ?_ (fun wq hC => ?_) ?_
  rotate_left
  · (go_simp) <;> (try (with_reducible rfl))
  try simp only [Act.put, Array.getInternal_eq_getElem, List.getElem_toArray, List.getElem_cons_zero, List.getElem_cons_succ, List.setIfInBounds_toArray, List.set_cons_zero, List.set_cons_succ]
  --@6
  refine q_any (by kernel_rfl) ?_ (fun wq hC => ?_) ?_
  rotate_left
  · (go_simp) <;> (try (with_reducible rfl))
  try simp only [Act.put, Array.getInternal_eq_getElem, List.getElem_toArray, List.getElem_cons_zero, List.getElem_cons_succ, List.setIfInBounds_toArray, List.set_cons_zero, List.set_cons_succ]
  --@7
  refine q_any (by kernel_rfl) ?_ (fun wq hC => ?_) ?_
  rotate_left
  · (have hF := (HFF wq hC).dat; (try dsimp only at hF); go_simp) <;> (try (with_reducible rfl))
  try simp only [Act.put, Array.getInternal_eq_getElem, List.getElem_toArray, List.getElem_cons_zero, List.getElem_cons_succ, List.setIfInBounds_toArray, List.set_cons_zero, List.set_cons_succ]
  --@8
  refine q_any (by kernel_rfl) ?_ (fun wq hC => ?_) ?_
  rotate_left
  · (go_simp) <;> (try (with_reducible rfl))
  try simp only [Act.put, Array.getInternal_eq_getElem, List.getElem_toArray, List.getElem_cons_zero, List.getElem_cons_succ, List.setIfInBounds_toArray, List.set_cons_zero, List.set_cons_succ]
  --@9
  refine q_any (by kernel_rfl) ?_ (fun wq hC => ?_) ?_
  rotate_left
  · (go_simp) <;> (try (with_reducible rfl))
  try simp only [Act.put, Array.getInternal_eq_getElem, List.getElem_toArray, List.getElem_cons_zero, List.getElem_cons_succ, List.setIfInBounds_toArray, List.set_cons_zero, List.set_cons_succ]
  --@10
  refine q_any (by kernel_rfl) ?_ (fun wq hC => ?_) ?_
  rotate_left
  · (go_simp) <;> (try (with_reducible rfl))
  try simp only [Act.put, Array.getInternal_eq_getElem, List.getElem_toArray, List.getElem_cons_zero, List.getElem_cons_succ, List.setIfInBounds_toArray, List.set_cons_zero, List.set_cons_succ]
  refine q_nil ?_
  intro wz kwz
  go_wp2
  try rw [Exit.noGoto_ret]
  go_ret
  exact ⟨rfl, fun S => (K2.out S).trans (kwz.all S)⟩
theorem pchk_ (h : Hd) (A : Option Addr) (n c : Nat) (hw : h.Wf) (hl : h.dat.length = n) (hn : n ≤ 140737488355328) : Calls Try.prog 17 #[hvv h (.slice A n c)] w fun e w' => e = .returned (.int .i64 (chkE h)) ∧ ∀ S, Keeps S w w' := by
  unfold chkE
  rw [hl]
  by_cases hm : May h
  · rw [if_neg (fun z => z hm)]
    by_cases hq : 2048 < fsz h + mids h.pr + n
    · rw [if_pos hq]; exact pchk_long w h A n c hw hn hm hq
    · rw [if_neg hq]; exact pchk_ok w h A n c hw hn hm hq
  · rw [if_pos hm]; exact pchk_no w h A n c hw hn hm
end
end Go.Proofs.Ytidengmcbppcoaa.pk
