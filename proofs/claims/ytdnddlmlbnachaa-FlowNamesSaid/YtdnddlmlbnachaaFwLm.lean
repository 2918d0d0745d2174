/-
  The law FlowNames, walked.
-/
import Derived.Test.YtdnddlmlbnachaaFwLo
set_option linter.unusedVariables false
set_option linter.unusedSimpArgs false
namespace Go.Proofs.Ytdnddlmlbnachaa.fw
open Go.RowKit Go.Proofs.Ytdnddlmlbnachaa.oc Go.Proofs.Ytdnddlmlbnachaa.mz Go.Proofs.Ytdnddlmlbnachaa.pf Go.Proofs.Ytdnddlmlbnachaa.wh Go.Proofs.Ytdnddlmlbnachaa.qk Go.Proofs.Ytdnddlmlbnachaa.bys
def icH : Ky := ⟨exK.src, exK.dst, 1, 53, 1024⟩
def icK : Ky := ⟨exK.src, exK.dst, 1, 0, 0⟩
def zrK : Ky := ⟨⟨false, List.replicate 16 0⟩, ⟨false, List.replicate 16 0⟩, 0, 0, 0⟩
theorem icH_wf : icH.Wf := ⟨exK_wf.s, exK_wf.d, by decide, by decide, by decide⟩
theorem icK_wf : icK.Wf := ⟨exK_wf.s, exK_wf.d, by decide, by decide, by decide⟩
theorem zrK_wf : zrK.Wf := ⟨⟨rfl, by decide⟩, ⟨rfl, by decide⟩, by decide, by decide, by decide⟩
theorem kof_ic : kof icH = icK := rfl
theorem hash_ne : ((khash zrK : Nat) : Int) ≠ ((khash exK : Nat) : Int) := by
  intro h
  have : khash zrK = khash exK := by omega
  exact absurd this (by decide +kernel)
def hrest : List Value := [.int .u8 0, .int .u8 0, .int .u32 0, .int .u8 0, .int .u32 0, .slice none 0 0]
theorem built_hd : Try.prog.built 29 [(0, .agg (adc exK.src).toArray), (1, .agg (adc exK.dst).toArray), (2, .int .u8 1), (3, .int .u16 53), (4, .int .u16 1024)] = some (kvc icH ++ hrest).toArray := by kernel_rfl
theorem built_ic : Try.prog.built 31 [(0, .agg (adc exK.src).toArray), (1, .agg (adc exK.dst).toArray), (2, .int .u8 1)] = some (kvc icK).toArray := by kernel_rfl
theorem built_zr : Try.prog.built 31 [] = some (kvc zrK).toArray := by kernel_rfl
theorem q_build {P : Program} {ops : Array Oper} {C : World → Prop} {Q : Act → Prop} {rest : List Oper} {o : Oper} {a : Act} (hw : Region.wanted o (yielded ops a.tmps) = true) (t : TypeId) (parts : Array (Nat × Operand)) (ho : o.op = .build t parts)
    (ps : List (Nat × Value)) (hp : (parts.toList.map fun (i, x) => (i, a.eval x)) = ps) (cells : Array Value) (hb : P.built t ps = some cells) (h : WQ P ops C Q rest (a.put o.dst (.agg cells))) : WQ P ops C Q (o :: rest) a := by
  subst hp
  refine q_any hw (.agg cells) (fun wq hC => ?_) h
  have hr := run_build (P := P) wq t (parts.map fun (i, x) => (i, a.eval x)) cells (by rw [Array.toList_map]; exact hb)
  unfold execOp
  simp only [ho, Sem.run_bind, hr, Result.andThen_ok]
  rfl
set_option maxRecDepth 100000 in
set_option maxHeartbeats 8000000 in
theorem walk_flowNames (w : World) : Calls Try.prog 9 #[] w fun e w' => e = .returned (.bool true) ∧ Below w.heap.size w w' := by
  have HX := fun w => Lib.hid (example_ w)
  have HL0 := fun w => Lib.hid (plane_lt w exK exK_wf 0 (by decide))
  have HL17 := fun w => Lib.hid (plane_gt w exK exK_wf 17 (by decide))
  have HL1 := fun w => Lib.hid (plane_ok w exK exK_wf 1 (by decide) (by decide))
  have HLm := fun w => Lib.hid (plane_lt w exK exK_wf (-1) (by decide))
  have HP0 := fun w => Lib.hid (ppart_no w exK exK_wf)
  have HP1 := fun w => Lib.hid (ppart_ok w exK exK_wf 1 (by decide) (by decide))
  rw [Nat.mod_one] at HL1 HP1
  have HOF := fun w => Lib.hid (pof_ w icH hrest icH_wf)
  rw [kof_ic] at HOF
  have HA := fun w => Lib.hid (awake_ w)
  have HHZ := fun w => Lib.hid (hash_ w zrK zrK_wf)
  have HHE := fun w => Lib.hid (hash_ w exK exK_wf)
  have HEI := fun w => key_eql icK icK icK_wf icK_wf w
  rw [decide_eq_true rfl] at HEI
  have HNE : Hid ((((khash zrK : Nat) : Int) != ((khash exK : Nat) : Int)) = true) := Lib.hid (bne_iff_ne.2 hash_ne)
  have HBH := Lib.hid built_hd
  have HBI := Lib.hid built_ic
  have HBZ := Lib.hid built_zr
  have HSE := Lib.hid (key_sz exK_wf)
  have HLE := Lib.hid (kvc_len exK_wf)
  have HLI := Lib.hid (kvc_len icK_wf)
  have HSI := Lib.hid (key_sz icK_wf)
  have HSS := Lib.hid (ad_sz exK_wf.s)
  have HSD := Lib.hid (ad_sz exK_wf.d)
  have HZE := Lib.hid (show (Try.prog.info? 31).map (·.size) = some (kvc exK).toArray.size from by rw [List.size_toArray]; exact key_sz exK_wf)
  have HOE := Lib.hid (all_oneCell_toArray (kvc_one exK))
  have HZI := Lib.hid (show (Try.prog.info? 31).map (·.size) = some (kvc icK).toArray.size from by rw [List.size_toArray]; exact key_sz icK_wf)
  have HOI := Lib.hid (all_oneCell_toArray (kvc_one icK))
  have HKF : Hid (∀ wq g, Blk wq g 31 (kvc exK) → wq.rangeAt g 0 (kvc exK) ∧ wq.rangeAt g 0 (adc exK.src) ∧ wq.rangeAt g 17 (adc exK.dst)) := Lib.hid (fun wq g hb => by
    have f := KF.of_range exK_wf (Blk.range hb)
    have := f.dst
    rw [Nat.zero_add] at this
    exact ⟨f.all, f.src, this⟩)
  unfold kv at HX HL0 HL17 HL1 HLm HP0 HP1 HOF HHZ HHE HEI
  unfold hv at HOF
  generalize kvc exK = CE at *
  generalize kvc icK = CI at *
  generalize kvc zrK = CZ at *
  generalize kvc icH ++ hrest = CH at *
  generalize adc exK.src = CS at *
  generalize adc exK.dst = CD at *
  generalize khash zrK = hz0 at *
  generalize khash exK = he0 at *
  go_enter Try.func9, Try.ntmps9
  go_wp2_with fail
  refine (HX _).out.mono ?_
  rintro e w2 ⟨rfl, q2⟩
  obtain ⟨w2b, h3, t3, b3, q3⟩ := copy_key w2 CE HLE.out
  have HT3 := Lib.hid t3
  have HW3 := Lib.hid h3
  have BE_w2b := Lib.hid b3
  have K_w2b : Hid (∀ S, Keeps S w w2b) := Lib.hid (fun S => (q2 S).trans (q3 S))
  clear q2 h3 t3 b3 q3
  go_wp2_with (first
    | (refine' wpList_store_mid rfl 31 _ _ rfl w2.heap.size 0 (CE).toArray ?hx rfl ?ht HZE.out HOE.out ?_; (case hx => rfl); (case ht => exact HT3.out); rw [← HW3.out])
    | (refine wpList_load_mid rfl 31 _ rfl w2.heap.size 0 rfl (CE) _ (Blk.range BE_w2b.out) Try.underlying31 rfl HSE.out ?_))
  refine (HL0 _).out.mono ?_
  rintro e w3 ⟨rfl, qw3⟩
  have K_w3 : Hid (∀ S, Keeps S w w3) := Lib.hid (fun S => (K_w2b.out S).trans (qw3 S))
  have BE_w3 := Lib.hid (Blk.keeps BE_w2b.out (qw3 (fun _ => False)) (fun z => z))
  clear qw3
  go_wp2_with (refine wpList_load_mid rfl 31 _ rfl w2.heap.size 0 rfl (CE) _ (Blk.range BE_w3.out) Try.underlying31 rfl HSE.out ?_)
  refine (HL17 _).out.mono ?_
  rintro e w4 ⟨rfl, qw4⟩
  have K_w4 : Hid (∀ S, Keeps S w w4) := Lib.hid (fun S => (K_w3.out S).trans (qw4 S))
  have BE_w4 := Lib.hid (Blk.keeps BE_w3.out (qw4 (fun _ => False)) (fun z => z))
  clear qw4
  go_wp2_with (refine wpList_load_mid rfl 31 _ rfl w2.heap.size 0 rfl (CE) _ (Blk.range BE_w4.out) Try.underlying31 rfl HSE.out ?_)
  refine (HL1 _).out.mono ?_
  rintro e w5 ⟨rfl, qw5⟩
  have K_w5 : Hid (∀ S, Keeps S w w5) := Lib.hid (fun S => (K_w4.out S).trans (qw5 S))
  have BE_w5 := Lib.hid (Blk.keeps BE_w4.out (qw5 (fun _ => False)) (fun z => z))
  clear qw5
  go_wp2_with (refine wpList_load_mid rfl 31 _ rfl w2.heap.size 0 rfl (CE) _ (Blk.range BE_w5.out) Try.underlying31 rfl HSE.out ?_)
  refine (HP0 _).out.mono ?_
  rintro e w6 ⟨rfl, qw6⟩
  have K_w6 : Hid (∀ S, Keeps S w w6) := Lib.hid (fun S => (K_w5.out S).trans (qw6 S))
  have BE_w6 := Lib.hid (Blk.keeps BE_w5.out (qw6 (fun _ => False)) (fun z => z))
  clear qw6
  go_wp2_with (refine wpList_load_mid rfl 31 _ rfl w2.heap.size 0 rfl (CE) _ (Blk.range BE_w6.out) Try.underlying31 rfl HSE.out ?_)
  refine (HP1 _).out.mono ?_
  rintro e w7 ⟨rfl, qw7⟩
  have K_w7 : Hid (∀ S, Keeps S w w7) := Lib.hid (fun S => (K_w6.out S).trans (qw7 S))
  have BE_w7 := Lib.hid (Blk.keeps BE_w6.out (qw7 (fun _ => False)) (fun z => z))
  clear qw7
  go_wp2_with (refine wpList_load_mid rfl 31 _ rfl w2.heap.size 0 rfl (CE) _ (Blk.range BE_w7.out) Try.underlying31 rfl HSE.out ?_)
  refine (HLm _).out.mono ?_
  rintro e w8 ⟨rfl, qw8⟩
  have K_w8 : Hid (∀ S, Keeps S w w8) := Lib.hid (fun S => (K_w7.out S).trans (qw8 S))
  have BE_w8 := Lib.hid (Blk.keeps BE_w7.out (qw8 (fun _ => False)) (fun z => z))
  clear qw8
  have FE8 := Lib.hid (HKF.out w8 _ BE_w8.out)
  go_wp2_with (first
    | (refine wpList_load_mid rfl 24 _ rfl w2.heap.size 0 rfl (CS) _ FE8.out.2.1 Try.underlying24 rfl HSS.out ?_)
    | (refine wpList_load_mid rfl 24 _ rfl w2.heap.size 17 rfl (CD) _ FE8.out.2.2 Try.underlying24 rfl HSD.out ?_)
    | ((with_reducible show wpList _ _ _ (⟨some 50, _, _, _, _, _⟩ :: _) _ _); refine' wpList_build rfl 29 _ rfl [(0, .agg CS.toArray), (1, .agg CD.toArray), (2, .int .u8 1), (3, .int .u16 53), (4, .int .u16 1024)] ?hp _ HBH.out ?_; (case hp => rfl)))
  refine (HOF _).out.mono ?_
  rintro e w9 ⟨rfl, q9⟩
  obtain ⟨w10, h10, t10, b10, q10⟩ := copy_key w9 CI HLI.out
  have HT10 := Lib.hid t10
  have HW10 := Lib.hid h10
  have K10 : Hid (∀ S, Keeps S w w10) := Lib.hid (fun S => (K_w8.out S).trans ((q9 S).trans (q10 S)))
  have HFI := fun (wq : World) (hC : Old w10 wq) => Blk.range (hC.blk b10)
  have HFE := fun (wq : World) (hC : Old w10 wq) => HKF.out wq _ (hC.blk (Blk.keeps BE_w8.out ((q9 (fun _ => False)).trans (q10 _)) (fun z => z)))
  clear q9 h10 t10 b10 q10
  go_wp2_with (refine' wpList_store_mid rfl 31 _ _ rfl w9.heap.size 0 (CI).toArray ?hx rfl ?ht HZI.out HOI.out ?_; (case hx => rfl); (case ht => exact HT10.out); rw [← HW10.out])
  refine q_region (by kernel_rfl) (by kernel_rfl) (Old.refl w10) ?_
  --@0
  refine q_any (by kernel_rfl) ?_ (fun wq hC => ?_) ?_
  rotate_left
  · (go_simp) <;> (try (with_reducible rfl))
  try simp only [Act.put, Array.getInternal_eq_getElem, List.getElem_toArray, List.getElem_cons_zero, List.getElem_cons_succ, List.setIfInBounds_toArray, List.set_cons_zero, List.set_cons_succ]
  --@1
  refine q_call (by kernel_rfl) (fun wq hC => old_call hC (HA wq).out) (fun wq => ?_) ?_
  · go_simp <;> (try (with_reducible rfl))
  try simp only [Act.put, Array.getInternal_eq_getElem, List.getElem_toArray, List.getElem_cons_zero, List.getElem_cons_succ, List.setIfInBounds_toArray, List.set_cons_zero, List.set_cons_succ]
  --@2
  refine q_any (by kernel_rfl) ?_ (fun wq hC => ?_) ?_
  rotate_left
  · (go_simp) <;> (try (with_reducible rfl))
  try simp only [Act.put, Array.getInternal_eq_getElem, List.getElem_toArray, List.getElem_cons_zero, List.getElem_cons_succ, List.setIfInBounds_toArray, List.set_cons_zero, List.set_cons_succ]
  --@3
  refine q_any (by kernel_rfl) ?_ (fun wq hC => ?_) ?_
  rotate_left
  · (go_simp) <;> (try (with_reducible rfl))
  try simp only [Act.put, Array.getInternal_eq_getElem, List.getElem_toArray, List.getElem_cons_zero, List.getElem_cons_succ, List.setIfInBounds_toArray, List.set_cons_zero, List.set_cons_succ]
  --@4
  refine q_any (by kernel_rfl) ?_ (fun wq hC => ?_) ?_
  rotate_left
  · (go_simp) <;> (try (with_reducible rfl))
  try simp only [Act.put, Array.getInternal_eq_getElem, List.getElem_toArray, List.getElem_cons_zero, List.getElem_cons_succ, List.setIfInBounds_toArray, List.set_cons_zero, List.set_cons_succ]
  --@5
  refine q_any (by kernel_rfl) ?_ (fun wq hC => ?_) ?_
  rotate_left
  · (go_simp) <;> (try (with_reducible rfl))
  try simp only [Act.put, Array.getInternal_eq_getElem, List.getElem_toArray, List.getElem_cons_zero, List.getElem_cons_succ, List.setIfInBounds_toArray, List.set_cons_zero, List.set_cons_succ]
  --@6
  refine q_any (by kernel_rfl) ?_ (fun wq hC => ?_) ?_
  rotate_left
  · (go_simp) <;> (try (with_reducible rfl))
  try simp only [Act.put, Array.getInternal_eq_getElem, List.getElem_toArray, List.getElem_cons_zero, List.getElem_cons_succ, List.setIfInBounds_toArray, List.set_cons_zero, List.set_cons_succ]
  --@7
  refine q_any (by kernel_rfl) ?_ (fun wq hC => ?_) ?_
  rotate_left
  · (go_simp) <;> (try (with_reducible rfl))
  try simp only [Act.put, Array.getInternal_eq_getElem, List.getElem_toArray, List.getElem_cons_zero, List.getElem_cons_succ, List.setIfInBounds_toArray, List.set_cons_zero, List.set_cons_succ]
  --@8
  refine q_any (by kernel_rfl) ?_ (fun wq hC => ?_) ?_
  rotate_left
  · (go_simp) <;> (try (with_reducible rfl))
  try simp only [Act.put, Array.getInternal_eq_getElem, List.getElem_toArray, List.getElem_cons_zero, List.getElem_cons_succ, List.setIfInBounds_toArray, List.set_cons_zero, List.set_cons_succ]
  --@9
  refine q_any (by kernel_rfl) ?_ (fun wq hC => ?_) ?_
  rotate_left
  · (go_simp) <;> (try (with_reducible rfl))
  try simp only [Act.put, Array.getInternal_eq_getElem, List.getElem_toArray, List.getElem_cons_zero, List.getElem_cons_succ, List.setIfInBounds_toArray, List.set_cons_zero, List.set_cons_succ]
  --@10
  refine q_any (by kernel_rfl) ?_ (fun wq hC => ?_) ?_
  rotate_left
  · (go_simp) <;> (try (with_reducible rfl))
  try simp only [Act.put, Array.getInternal_eq_getElem, List.getElem_toArray, List.getElem_cons_zero, List.getElem_cons_succ, List.setIfInBounds_toArray, List.set_cons_zero, List.set_cons_succ]
  --@11
  refine q_any (by kernel_rfl) ?_ (fun wq hC => ?_) ?_
  rotate_left
  · (go_simp) <;> (try (with_reducible rfl))
  try simp only [Act.put, Array.getInternal_eq_getElem, List.getElem_toArray, List.getElem_cons_zero, List.getElem_cons_succ, List.setIfInBounds_toArray, List.set_cons_zero, List.set_cons_succ]
  --@12
  refine q_any (by kernel_rfl) ?_ (fun wq hC => ?_) ?_
  rotate_left
  · (go_simp) <;> (try (with_reducible rfl))
  try simp only [Act.put, Array.getInternal_eq_getElem, List.getElem_toArray, List.getElem_cons_zero, List.getElem_cons_succ, List.setIfInBounds_toArray, List.set_cons_zero, List.set_cons_succ]
  --@13
  refine q_any (by kernel_rfl) ?_ (fun wq hC => ?_) ?_
  rotate_left
  · (go_simp) <;> (try (with_reducible rfl))
  try simp only [Act.put, Array.getInternal_eq_getElem, List.getElem_toArray, List.getElem_cons_zero, List.getElem_cons_succ, List.setIfInBounds_toArray, List.set_cons_zero, List.set_cons_succ]
  --@14
  refine q_any (by kernel_rfl) ?_ (fun wq hC => ?_) ?_
  rotate_left
  · (go_simp) <;> (try (with_reducible rfl))
  try simp only [Act.put, Array.getInternal_eq_getElem, List.getElem_toArray, List.getElem_cons_zero, List.getElem_cons_succ, List.setIfInBounds_toArray, List.set_cons_zero, List.set_cons_succ]
  --@15
  refine q_any (by kernel_rfl) ?_ (fun wq hC => ?_) ?_
  rotate_left
  · (go_simp) <;> (try (with_reducible rfl))
  try simp only [Act.put, Array.getInternal_eq_getElem, List.getElem_toArray, List.getElem_cons_zero, List.getElem_cons_succ, List.setIfInBounds_toArray, List.set_cons_zero, List.set_cons_succ]
  --@16
  refine q_any (by kernel_rfl) ?_ (fun wq hC => ?_) ?_
  rotate_left
  · (go_simp) <;> (try (with_reducible rfl))
  try simp only [Act.put, Array.getInternal_eq_getElem, List.getElem_toArray, List.getElem_cons_zero, List.getElem_cons_succ, List.setIfInBounds_toArray, List.set_cons_zero, List.set_cons_succ]
  --@17
  refine q_any (by kernel_rfl) ?_ (fun wq hC => ?_) ?_
  rotate_left
  · (go_simp) <;> (try (with_reducible rfl))
  try simp only [Act.put, Array.getInternal_eq_getElem, List.getElem_toArray, List.getElem_cons_zero, List.getElem_cons_succ, List.setIfInBounds_toArray, List.set_cons_zero, List.set_cons_succ]
  --@18
  refine q_any (by kernel_rfl) ?_ (fun wq hC => ?_) ?_
  rotate_left
  · (go_simp) <;> (try (with_reducible rfl))
  try simp only [Act.put, Array.getInternal_eq_getElem, List.getElem_toArray, List.getElem_cons_zero, List.getElem_cons_succ, List.setIfInBounds_toArray, List.set_cons_zero, List.set_cons_succ]
  --@19
  refine q_any (by kernel_rfl) ?_ (fun wq hC => ?_) ?_
  rotate_left
  · (go_simp) <;> (try (with_reducible rfl))
  try simp only [Act.put, Array.getInternal_eq_getElem, List.getElem_toArray, List.getElem_cons_zero, List.getElem_cons_succ, List.setIfInBounds_toArray, List.set_cons_zero, List.set_cons_succ]
  --@20
  refine q_any (by kernel_rfl) ?_ (fun wq hC => ?_) ?_
  rotate_left
  · (go_simp) <;> (try (with_reducible rfl))
  try simp only [Act.put, Array.getInternal_eq_getElem, List.getElem_toArray, List.getElem_cons_zero, List.getElem_cons_succ, List.setIfInBounds_toArray, List.set_cons_zero, List.set_cons_succ]
  --@21
  refine q_any (by kernel_rfl) ?_ (fun wq hC => ?_) ?_
  rotate_left
  · (go_simp) <;> (try (with_reducible rfl))
  try simp only [Act.put, Array.getInternal_eq_getElem, List.getElem_toArray, List.getElem_cons_zero, List.getElem_cons_succ, List.setIfInBounds_toArray, List.set_cons_zero, List.set_cons_succ]
  --@22
  refine q_any (by kernel_rfl) ?_ (fun wq hC => ?_) ?_
  rotate_left
  · (go_simp) <;> (try (with_reducible rfl))
  try simp only [Act.put, Array.getInternal_eq_getElem, List.getElem_toArray, List.getElem_cons_zero, List.getElem_cons_succ, List.setIfInBounds_toArray, List.set_cons_zero, List.set_cons_succ]
  --@23
  refine q_any (by kernel_rfl) ?_ (fun wq hC => ?_) ?_
  rotate_left
  · (go_simp) <;> (try (with_reducible rfl))
  try simp only [Act.put, Array.getInternal_eq_getElem, List.getElem_toArray, List.getElem_cons_zero, List.getElem_cons_succ, List.setIfInBounds_toArray, List.set_cons_zero, List.set_cons_succ]
  --@24
  refine q_any (by kernel_rfl) ?_ (fun wq hC => ?_) ?_
  rotate_left
  · (go_simp) <;> (try (with_reducible rfl))
  try simp only [Act.put, Array.getInternal_eq_getElem, List.getElem_toArray, List.getElem_cons_zero, List.getElem_cons_succ, List.setIfInBounds_toArray, List.set_cons_zero, List.set_cons_succ]
  --@25
  refine q_any (by kernel_rfl) ?_ (fun wq hC => ?_) ?_
  rotate_left
  · (go_simp) <;> (try (with_reducible rfl))
  try simp only [Act.put, Array.getInternal_eq_getElem, List.getElem_toArray, List.getElem_cons_zero, List.getElem_cons_succ, List.setIfInBounds_toArray, List.set_cons_zero, List.set_cons_succ]
  --@26
  refine q_any (by kernel_rfl) ?_ (fun wq hC => ?_) ?_
  rotate_left
  · (go_simp) <;> (try (with_reducible rfl))
  try simp only [Act.put, Array.getInternal_eq_getElem, List.getElem_toArray, List.getElem_cons_zero, List.getElem_cons_succ, List.setIfInBounds_toArray, List.set_cons_zero, List.set_cons_succ]
  --@27
  refine q_any (by kernel_rfl) ?_ (fun wq hC => ?_) ?_
  rotate_left
  · (go_simp) <;> (try (with_reducible rfl))
  try simp only [Act.put, Array.getInternal_eq_getElem, List.getElem_toArray, List.getElem_cons_zero, List.getElem_cons_succ, List.setIfInBounds_toArray, List.set_cons_zero, List.set_cons_succ]
  --@28
  refine q_any (by kernel_rfl) ?_ (fun wq hC => ?_) ?_
  rotate_left
  · (go_simp) <;> (try (with_reducible rfl))
  try simp only [Act.put, Array.getInternal_eq_getElem, List.getElem_toArray, List.getElem_cons_zero, List.getElem_cons_succ, List.setIfInBounds_toArray, List.set_cons_zero, List.set_cons_succ]
  --@29
  refine q_any (by kernel_rfl) ?_ (fun wq hC => ?_) ?_
  rotate_left
  · (go_simp) <;> (try (with_reducible rfl))
  try simp only [Act.put, Array.getInternal_eq_getElem, List.getElem_toArray, List.getElem_cons_zero, List.getElem_cons_succ, List.setIfInBounds_toArray, List.set_cons_zero, List.set_cons_succ]
  --@30
  refine q_any (by kernel_rfl) ?_ (fun wq hC => ?_) ?_
  rotate_left
  · (go_simp) <;> (try (with_reducible rfl))
  try simp only [Act.put, Array.getInternal_eq_getElem, List.getElem_toArray, List.getElem_cons_zero, List.getElem_cons_succ, List.setIfInBounds_toArray, List.set_cons_zero, List.set_cons_succ]
  --@31
  refine q_any (by kernel_rfl) ?_ (fun wq hC => ?_) ?_
  rotate_left
  · (go_simp) <;> (try (with_reducible rfl))
  try simp only [Act.put, Array.getInternal_eq_getElem, List.getElem_toArray, List.getElem_cons_zero, List.getElem_cons_succ, List.setIfInBounds_toArray, List.set_cons_zero, List.set_cons_succ]
  --@32
  refine q_any (by kernel_rfl) ?_ (fun wq hC => ?_) ?_
  rotate_left
  · (go_simp) <;> (try (with_reducible rfl))
  try simp only [Act.put, Array.getInternal_eq_getElem, List.getElem_toArray, List.getElem_cons_zero, List.getElem_cons_succ, List.setIfInBounds_toArray, List.set_cons_zero, List.set_cons_succ]
  --@33
  refine q_any (by kernel_rfl) ?_ (fun wq hC => ?_) ?_
  rotate_left
  · (go_simp) <;> (try (with_reducible rfl))
  try simp only [Act.put, Array.getInternal_eq_getElem, List.getElem_toArray, List.getElem_cons_zero, List.getElem_cons_succ, List.setIfInBounds_toArray, List.set_cons_zero, List.set_cons_succ]
  --@34
  refine q_any (by kernel_rfl) ?_ (fun wq hC => ?_) ?_
  rotate_left
  · (go_simp) <;> (try (with_reducible rfl))
  try simp only [Act.put, Array.getInternal_eq_getElem, List.getElem_toArray, List.getElem_cons_zero, List.getElem_cons_succ, List.setIfInBounds_toArray, List.set_cons_zero, List.set_cons_succ]
  --@35
  refine q_any (by kernel_rfl) ?_ (fun wq hC => ?_) ?_
  rotate_left
  · (go_simp) <;> (try (with_reducible rfl))
  try simp only [Act.put, Array.getInternal_eq_getElem, List.getElem_toArray, List.getElem_cons_zero, List.getElem_cons_succ, List.setIfInBounds_toArray, List.set_cons_zero, List.set_cons_succ]
  --@36
  refine q_load (by kernel_rfl) 31 _ rfl w9.heap.size 0 rfl CI _ (fun wq hC => HFI wq hC) Try.underlying31 rfl HSI.out ?_
  try simp only [Act.put, Array.getInternal_eq_getElem, List.getElem_toArray, List.getElem_cons_zero, List.getElem_cons_succ, List.setIfInBounds_toArray, List.set_cons_zero, List.set_cons_succ]
  --@37
  refine q_any (by kernel_rfl) ?_ (fun wq hC => ?_) ?_
  rotate_left
  · (go_simp) <;> (try (with_reducible rfl))
  try simp only [Act.put, Array.getInternal_eq_getElem, List.getElem_toArray, List.getElem_cons_zero, List.getElem_cons_succ, List.setIfInBounds_toArray, List.set_cons_zero, List.set_cons_succ]
  --@38
  refine q_load (by kernel_rfl) 24 _ rfl w2.heap.size 0 rfl CS _ (fun wq hC => (HFE wq hC).2.1) Try.underlying24 rfl HSS.out ?_
  try simp only [Act.put, Array.getInternal_eq_getElem, List.getElem_toArray, List.getElem_cons_zero, List.getElem_cons_succ, List.setIfInBounds_toArray, List.set_cons_zero, List.set_cons_succ]
  --@39
  refine q_any (by kernel_rfl) ?_ (fun wq hC => ?_) ?_
  rotate_left
  · (go_simp) <;> (try (with_reducible rfl))
  try simp only [Act.put, Array.getInternal_eq_getElem, List.getElem_toArray, List.getElem_cons_zero, List.getElem_cons_succ, List.setIfInBounds_toArray, List.set_cons_zero, List.set_cons_succ]
  --@40
  refine q_load (by kernel_rfl) 24 _ rfl w2.heap.size 17 rfl CD _ (fun wq hC => (HFE wq hC).2.2) Try.underlying24 rfl HSD.out ?_
  try simp only [Act.put, Array.getInternal_eq_getElem, List.getElem_toArray, List.getElem_cons_zero, List.getElem_cons_succ, List.setIfInBounds_toArray, List.set_cons_zero, List.set_cons_succ]
  --@41
  refine' q_build (by kernel_rfl) 31 _ rfl [(0, .agg CS.toArray), (1, .agg CD.toArray), (2, .int .u8 1)] ?hp _ HBI.out ?_
  (case hp => rfl)
  try simp only [Act.put, Array.getInternal_eq_getElem, List.getElem_toArray, List.getElem_cons_zero, List.getElem_cons_succ, List.setIfInBounds_toArray, List.set_cons_zero, List.set_cons_succ]
  --@42
  refine q_any (by kernel_rfl) ?_ (fun wq hC => ?_) ?_
  rotate_left
  · (have hz := HEI wq; go_simp) <;> (try (with_reducible rfl))
  try simp only [Act.put, Array.getInternal_eq_getElem, List.getElem_toArray, List.getElem_cons_zero, List.getElem_cons_succ, List.setIfInBounds_toArray, List.set_cons_zero, List.set_cons_succ]
  --@43
  refine q_any (by kernel_rfl) ?_ (fun wq hC => ?_) ?_
  rotate_left
  · (go_simp) <;> (try (with_reducible rfl))
  try simp only [Act.put, Array.getInternal_eq_getElem, List.getElem_toArray, List.getElem_cons_zero, List.getElem_cons_succ, List.setIfInBounds_toArray, List.set_cons_zero, List.set_cons_succ]
  --@44
  refine q_any (by kernel_rfl) ?_ (fun wq hC => ?_) ?_
  rotate_left
  · (go_simp) <;> (try (with_reducible rfl))
  try simp only [Act.put, Array.getInternal_eq_getElem, List.getElem_toArray, List.getElem_cons_zero, List.getElem_cons_succ, List.setIfInBounds_toArray, List.set_cons_zero, List.set_cons_succ]
  --@45
  refine' q_build (by kernel_rfl) 31 _ rfl [] ?hp _ HBZ.out ?_
  (case hp => rfl)
  try simp only [Act.put, Array.getInternal_eq_getElem, List.getElem_toArray, List.getElem_cons_zero, List.getElem_cons_succ, List.setIfInBounds_toArray, List.set_cons_zero, List.set_cons_succ]
  --@46
  refine q_call (by kernel_rfl) (fun wq hC => old_call hC (HHZ wq).out) (fun wq => ?_) ?_
  · go_simp <;> (try (with_reducible rfl))
  try simp only [Act.put, Array.getInternal_eq_getElem, List.getElem_toArray, List.getElem_cons_zero, List.getElem_cons_succ, List.setIfInBounds_toArray, List.set_cons_zero, List.set_cons_succ]
  --@47
  refine q_load (by kernel_rfl) 31 _ rfl w2.heap.size 0 rfl CE _ (fun wq hC => (HFE wq hC).1) Try.underlying31 rfl HSE.out ?_
  try simp only [Act.put, Array.getInternal_eq_getElem, List.getElem_toArray, List.getElem_cons_zero, List.getElem_cons_succ, List.setIfInBounds_toArray, List.set_cons_zero, List.set_cons_succ]
  --@48
  refine q_call (by kernel_rfl) (fun wq hC => old_call hC (HHE wq).out) (fun wq => ?_) ?_
  · go_simp <;> (try (with_reducible rfl))
  try simp only [Act.put, Array.getInternal_eq_getElem, List.getElem_toArray, List.getElem_cons_zero, List.getElem_cons_succ, List.setIfInBounds_toArray, List.set_cons_zero, List.set_cons_succ]
  --@49
  refine q_any (by kernel_rfl) ?_ (fun wq hC => ?_) ?_
  rotate_left
  · (have hz := HNE.out; go_simp) <;> (try (with_reducible rfl))
  try simp only [Act.put, Array.getInternal_eq_getElem, List.getElem_toArray, List.getElem_cons_zero, List.getElem_cons_succ, List.setIfInBounds_toArray, List.set_cons_zero, List.set_cons_succ]
  --@50
  refine q_any (by kernel_rfl) ?_ (fun wq hC => ?_) ?_
  rotate_left
  · (go_simp) <;> (try (with_reducible rfl))
  try simp only [Act.put, Array.getInternal_eq_getElem, List.getElem_toArray, List.getElem_cons_zero, List.getElem_cons_succ, List.setIfInBounds_toArray, List.set_cons_zero, List.set_cons_succ]
  --@51
  refine q_any (by kernel_rfl) ?_ (fun wq hC => ?_) ?_
  rotate_left
  · (go_simp) <;> (try (with_reducible rfl))
  try simp only [Act.put, Array.getInternal_eq_getElem, List.getElem_toArray, List.getElem_cons_zero, List.getElem_cons_succ, List.setIfInBounds_toArray, List.set_cons_zero, List.set_cons_succ]
  refine q_nil ?_
  intro wz kwz
  go_wp2
  try rw [Exit.noGoto_ret]
  go_ret
  exact ⟨rfl, below_of (fun S => (K10.out S).trans (kwz.all S))⟩
end Go.Proofs.Ytdnddlmlbnachaa.fw
