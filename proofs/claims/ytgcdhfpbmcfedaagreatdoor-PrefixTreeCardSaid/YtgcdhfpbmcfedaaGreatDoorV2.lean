/-
  patchbayref15: AddrText. patchbayref15: Covers, Compare. patchbayref15: Of. patchbayref15: Halves. patchbayref15: hex, four. A row of one-cell elements that is appended to at its end and cut at its front. patchbayref15: numbers. A text of IPv6 is read, plainly.
-/
import Derived.Deep.AppendSrc
import Derived.Test.YtgcdhfpbmcfedaaGreatDoorV1
section
set_option linter.unusedVariables false
set_option linter.unusedSimpArgs false
namespace Go.Proofs.YtgcdhfpbmcfedaaGreatDoor.pf
open Go.RowKit Go.Proofs.YtgcdhfpbmcfedaaGreatDoor.oc Go.Proofs.YtgcdhfpbmcfedaaGreatDoor.mz Go.Proofs.YtgcdhfpbmcfedaaGreatDoor.wh
theorem dec_ (n : Nat) (w : World) (h : n < 256) : Calls Tryz.prog 51 #[.int .i64 (n : Int), .int .i64 10] w fun e w' => e = .returned (.string (str (dec n))) ∧ ∃ d, w' = w.drewN d :=
  digits_ 10 (by omega) (by omega) 2 n w (by omega) (by omega) (by omega)
theorem hex_ (n : Nat) (w : World) (h : n < 65536) : Calls Tryz.prog 51 #[.int .i64 (n : Int), .int .i64 16] w fun e w' => e = .returned (.string (str (hx n))) ∧ ∃ d, w' = w.drewN d :=
  digits_ 16 (by omega) (by omega) 3 n w (by omega) (by omega) (by omega)
theorem dec_len (n : Nat) : (dec n).length ≤ 3 := dg_len 10 3 n
theorem hx_len (n : Nat) : (hx n).length ≤ 4 := dg_len 16 4 n
section
variable (a : Ad) (w : World)
set_option maxRecDepth 100000 in
set_option maxHeartbeats 4000000 in
theorem addrtext_bad (ha : a.Wf) (ho : ¬ okA a) : Calls Tryz.prog 28 #[av a] w fun e w' => e = .returned (.tuple #[.string (str []), .int .i64 150]) ∧ ∀ S, Keeps S w w' := by
  have b0 := Blk.new w 24 (adc a).toArray
  have HLD := Lib.hid (Blk.range b0)
  have HSX := Lib.hid (show (Tryz.prog.info? 24).map (·.size) = some (adc a).length from by rw [adc_len ha]; exact addr_info)
  have hc := fun w => checkaddr_ a w ha
  rw [errA_no ho] at hc
  have HC := Lib.hid (hc (w.alloc (.cells (adc a).toArray 24)))
  have HE : Hid ((⟨#[]⟩ : ByteArray) = str []) := Lib.hid rfl
  unfold av at HC ⊢
  clear b0 ha ho hc
  generalize adc a = C at *
  go_enter Tryz.func28, Tryz.ntmps28
  go_wp2_with (refine wpList_load_mid rfl 24 _ rfl w.heap.size 0 rfl C _ HLD.out Tryz.underlying24 rfl HSX.out ?_)
  refine HC.out.mono ?_
  rintro e w1 ⟨rfl, k1⟩
  have K1 : Hid (∀ S, Keeps S w w1) := Lib.hid (fun S => ((Keeps.refl S w).alloc _).trans (k1 S))
  clear k1
  go_wp2
  try rw [Exit.noGoto_ret]
  go_ret2
  exact ⟨rfl, K1.out⟩
set_option maxRecDepth 100000 in
set_option maxHeartbeats 4000000 in
theorem addrtext_four (ha : a.Wf) (ho : okA a) (h6 : a.v6 = false) : Calls Tryz.prog 28 #[av a] w fun e w' => e = .returned (.tuple #[.string (str (atext a)), .int .i64 0]) ∧ ∀ S, Keeps S w w' := by
  have b0 := Blk.new w 24 (adc a).toArray
  have HLD := Lib.hid (Blk.range b0)
  have HSX := Lib.hid (show (Tryz.prog.info? 24).map (·.size) = some (adc a).length from by rw [adc_len ha]; exact addr_info)
  have hc := fun w => checkaddr_ a w ha
  rw [errA_ok ho] at hc
  have HC := Lib.hid (hc (w.alloc (.cells (adc a).toArray 24)))
  obtain ⟨T, hT⟩ : ∃ T, T = atext a := ⟨_, rfl⟩
  rw [← hT]
  have HT : Hid (T = t4 a) := Lib.hid (by rw [hT]; unfold atext; rw [h6]; rfl)
  clear hT
  have HB := Lib.hid (And.intro b0 h6)
  have HA := Lib.hid ha
  have HL := Lib.hid (byt_lt ha)
  unfold av at HC ⊢
  clear b0 ha ho hc h6
  generalize hC : adc a = C at *
  have HCC := Lib.hid hC
  clear hC
  go_enter Tryz.func28, Tryz.ntmps28
  go_wp2_with (refine wpList_load_mid rfl 24 _ rfl w.heap.size 0 rfl C _ HLD.out Tryz.underlying24 rfl HSX.out ?_)
  refine HC.out.mono ?_
  rintro e w1 ⟨rfl, k1⟩
  have K1 : Hid (∀ S, Keeps S w w1) := Lib.hid (fun S => ((Keeps.refl S w).alloc _).trans (k1 S))
  have b1 := Blk.keeps HB.out.1 (k1 (fun _ => False)) (fun z => z)
  rw [← HCC.out] at b1
  have x0 := ad_v6 b1
  rw [HB.out.2] at x0
  have xb := fun i (hi : i < 16) => ad_byt HA.out b1 hi
  have x1 := xb 0 (by omega)
  have x2 := xb 1 (by omega)
  have x3 := xb 2 (by omega)
  have x4 := xb 3 (by omega)
  have HD0 := fun w => Lib.hid (dec_ (byt a 0) w (HL.out 0))
  have HD1 := fun w => Lib.hid (dec_ (byt a 1) w (HL.out 1))
  have HD2 := fun w => Lib.hid (dec_ (byt a 2) w (HL.out 2))
  have HD3 := fun w => Lib.hid (dec_ (byt a 3) w (HL.out 3))
  have l0 := dec_len (byt a 0)
  have l1 := dec_len (byt a 1)
  have l2 := dec_len (byt a 2)
  have l3 := dec_len (byt a 3)
  have e0 : IntKind.i64.wrap ((byt a 0 : Nat) : Int) = ((byt a 0 : Nat) : Int) := by have := HL.out 0; rw [IntKind.wrap_i64]; omega
  have e1 : IntKind.i64.wrap ((byt a 1 : Nat) : Int) = ((byt a 1 : Nat) : Int) := by have := HL.out 1; rw [IntKind.wrap_i64]; omega
  have e2 : IntKind.i64.wrap ((byt a 2 : Nat) : Int) = ((byt a 2 : Nat) : Int) := by have := HL.out 2; rw [IntKind.wrap_i64]; omega
  have e3 : IntKind.i64.wrap ((byt a 3 : Nat) : Int) = ((byt a 3 : Nat) : Int) := by have := HL.out 3; rw [IntKind.wrap_i64]; omega
  unfold t4 at HT
  generalize byt a 0 = n0 at *
  generalize byt a 1 = n1 at *
  generalize byt a 2 = n2 at *
  generalize byt a 3 = n3 at *
  generalize dec n0 = s0 at *
  generalize dec n1 = s1 at *
  generalize dec n2 = s2 at *
  generalize dec n3 = s3 at *
  clear k1 b1 xb HLD HC HB HA HL
  generalize w.heap.size = P at *
  have z1 : ¬ 9223372036854775807 < (str s0).size + 1 := by simp only [str_size]; omega
  have z2 : ¬ 9223372036854775807 < (str s0).size + 1 + (str s1).size := by simp only [str_size]; omega
  have z3 : ¬ 9223372036854775807 < (str s0).size + 1 + (str s1).size + 1 := by simp only [str_size]; omega
  have z4 : ¬ 9223372036854775807 < (str s0).size + 1 + (str s1).size + 1 + (str s2).size := by simp only [str_size]; omega
  have z5 : ¬ 9223372036854775807 < (str s0).size + 1 + (str s1).size + 1 + (str s2).size + 1 := by simp only [str_size]; omega
  have z6 : ¬ 9223372036854775807 < (str s0).size + 1 + (str s1).size + 1 + (str s2).size + 1 + (str s3).size := by simp only [str_size]; omega
  go_wp2_with fail
  refine wp_region_held_drew (S := fun w' => w'.cell? ⟨P, 1, none⟩ = some (.int .u8 (n0 : Int)) ∧ w'.cell? ⟨P, 2, none⟩ = some (.int .u8 (n1 : Int)) ∧ w'.cell? ⟨P, 3, none⟩ = some (.int .u8 (n2 : Int)) ∧ w'.cell? ⟨P, 4, none⟩ = some (.int .u8 (n3 : Int))) (by kernel_rfl) ⟨x1, x2, x3, x4⟩ (fun hHeld => ?_)
  refine wpAnyH_take (i := 0) (v := ?_) rfl (by kernel_rfl) (by kernel_rfl) (by kernel_rfl) (fun _ _ _ h => h) (Or.inl ⟨by kernel_rfl, ?_⟩) (by assumption) ?_
  rotate_left
  · (intro w hSw; (try dsimp only at hSw); go_simp) <;> (try (with_reducible rfl))
  try simp only [Act.put, Array.getInternal_eq_getElem, List.getElem_toArray, List.getElem_cons_zero, List.getElem_cons_succ, List.setIfInBounds_toArray, List.set_cons_zero, List.set_cons_succ]
  refine wpAnyH_take (i := 1) (v := ?_) rfl (by kernel_rfl) (by kernel_rfl) (by kernel_rfl) (fun _ _ _ h => h) (Or.inl ⟨by kernel_rfl, ?_⟩) (by assumption) ?_
  rotate_left
  · (intro w hSw; (try dsimp only at hSw); go_simp) <;> (try (with_reducible rfl))
  try simp only [Act.put, Array.getInternal_eq_getElem, List.getElem_toArray, List.getElem_cons_zero, List.getElem_cons_succ, List.setIfInBounds_toArray, List.set_cons_zero, List.set_cons_succ]
  refine wpAnyH_take (i := 2) (v := ?_) rfl (by kernel_rfl) (by kernel_rfl) (by kernel_rfl) (fun _ _ _ h => h) (Or.inl ⟨by kernel_rfl, ?_⟩) (by assumption) ?_
  rotate_left
  · (intro w hSw; (try dsimp only at hSw); go_simp) <;> (try (with_reducible rfl))
  try simp only [Act.put, Array.getInternal_eq_getElem, List.getElem_toArray, List.getElem_cons_zero, List.getElem_cons_succ, List.setIfInBounds_toArray, List.set_cons_zero, List.set_cons_succ]
  refine wpAnyH_take (i := 3) (v := ?_) rfl (by kernel_rfl) (by kernel_rfl) (by kernel_rfl) (fun _ _ _ h => h) (Or.inl ⟨by kernel_rfl, ?_⟩) (by assumption) ?_
  rotate_left
  · (intro w hSw; (try dsimp only at hSw); go_simp) <;> (try (with_reducible rfl))
  try simp only [Act.put, Array.getInternal_eq_getElem, List.getElem_toArray, List.getElem_cons_zero, List.getElem_cons_succ, List.setIfInBounds_toArray, List.set_cons_zero, List.set_cons_succ]
  refine wpAnyH_take (i := 6) (v := ?_) rfl (by kernel_rfl) (by kernel_rfl) (by kernel_rfl) (fun _ _ _ h => h) (Or.inl ⟨by kernel_rfl, ?_⟩) (by assumption) ?_
  rotate_left
  · (intro w hSw; (try dsimp only at hSw); go_simp) <;> (try (with_reducible rfl))
  try simp only [Act.put, Array.getInternal_eq_getElem, List.getElem_toArray, List.getElem_cons_zero, List.getElem_cons_succ, List.setIfInBounds_toArray, List.set_cons_zero, List.set_cons_succ]
  refine wpAnyH_take (i := 7) (v := ?_) rfl (by kernel_rfl) (by kernel_rfl) (by kernel_rfl) (fun _ _ _ h => h) (Or.inl ⟨by kernel_rfl, ?_⟩) (by assumption) ?_
  rotate_left
  · (intro w hSw; (try dsimp only at hSw); go_simp) <;> (try (with_reducible rfl))
  try simp only [Act.put, Array.getInternal_eq_getElem, List.getElem_toArray, List.getElem_cons_zero, List.getElem_cons_succ, List.setIfInBounds_toArray, List.set_cons_zero, List.set_cons_succ]
  refine wpAnyH_take (i := 8) (v := ?_) rfl (by kernel_rfl) (by kernel_rfl) (by kernel_rfl) (fun _ _ _ h => h) (Or.inl ⟨by kernel_rfl, ?_⟩) (by assumption) ?_
  rotate_left
  · (intro w hSw; (try dsimp only at hSw); go_simp) <;> (try (with_reducible rfl))
  try simp only [Act.put, Array.getInternal_eq_getElem, List.getElem_toArray, List.getElem_cons_zero, List.getElem_cons_succ, List.setIfInBounds_toArray, List.set_cons_zero, List.set_cons_succ]
  refine wpAnyH_take (i := 9) (v := ?_) rfl (by kernel_rfl) (by kernel_rfl) (by kernel_rfl) (fun _ _ _ h => h) (Or.inl ⟨by kernel_rfl, ?_⟩) (by assumption) ?_
  rotate_left
  · (intro w hSw; (try dsimp only at hSw); go_simp) <;> (try (with_reducible rfl))
  try simp only [Act.put, Array.getInternal_eq_getElem, List.getElem_toArray, List.getElem_cons_zero, List.getElem_cons_succ, List.setIfInBounds_toArray, List.set_cons_zero, List.set_cons_succ]
  refine wpAnyH_take (i := 13) (v := ?_) rfl (by kernel_rfl) (by kernel_rfl) (by kernel_rfl) (fun _ _ _ h => h) (Or.inl ⟨by kernel_rfl, ?_⟩) (by assumption) ?_
  rotate_left
  · (intro w hSw; (try dsimp only at hSw); go_simp) <;> (try (with_reducible rfl))
  try simp only [Act.put, Array.getInternal_eq_getElem, List.getElem_toArray, List.getElem_cons_zero, List.getElem_cons_succ, List.setIfInBounds_toArray, List.set_cons_zero, List.set_cons_succ]
  refine wpAnyH_take (i := 14) (v := ?_) rfl (by kernel_rfl) (by kernel_rfl) (by kernel_rfl) (fun _ _ _ h => h) (Or.inl ⟨by kernel_rfl, ?_⟩) (by assumption) ?_
  rotate_left
  · (intro w hSw; (try dsimp only at hSw); go_simp) <;> (try (with_reducible rfl))
  try simp only [Act.put, Array.getInternal_eq_getElem, List.getElem_toArray, List.getElem_cons_zero, List.getElem_cons_succ, List.setIfInBounds_toArray, List.set_cons_zero, List.set_cons_succ]
  refine wpAnyH_take (i := 15) (v := ?_) rfl (by kernel_rfl) (by kernel_rfl) (by kernel_rfl) (fun _ _ _ h => h) (Or.inl ⟨by kernel_rfl, ?_⟩) (by assumption) ?_
  rotate_left
  · (intro w hSw; (try dsimp only at hSw); go_simp) <;> (try (with_reducible rfl))
  try simp only [Act.put, Array.getInternal_eq_getElem, List.getElem_toArray, List.getElem_cons_zero, List.getElem_cons_succ, List.setIfInBounds_toArray, List.set_cons_zero, List.set_cons_succ]
  refine wpAnyH_take (i := 16) (v := ?_) rfl (by kernel_rfl) (by kernel_rfl) (by kernel_rfl) (fun _ _ _ h => h) (Or.inl ⟨by kernel_rfl, ?_⟩) (by assumption) ?_
  rotate_left
  · (intro w hSw; (try dsimp only at hSw); go_simp) <;> (try (with_reducible rfl))
  try simp only [Act.put, Array.getInternal_eq_getElem, List.getElem_toArray, List.getElem_cons_zero, List.getElem_cons_succ, List.setIfInBounds_toArray, List.set_cons_zero, List.set_cons_succ]
  refine wpAnyH_take (i := 20) (v := ?_) rfl (by kernel_rfl) (by kernel_rfl) (by kernel_rfl) (fun _ _ _ h => h) (Or.inl ⟨by kernel_rfl, ?_⟩) (by assumption) ?_
  rotate_left
  · (intro w hSw; (try dsimp only at hSw); go_simp) <;> (try (with_reducible rfl))
  try simp only [Act.put, Array.getInternal_eq_getElem, List.getElem_toArray, List.getElem_cons_zero, List.getElem_cons_succ, List.setIfInBounds_toArray, List.set_cons_zero, List.set_cons_succ]
  refine wpAnyH_take (i := 21) (v := ?_) rfl (by kernel_rfl) (by kernel_rfl) (by kernel_rfl) (fun _ _ _ h => h) (Or.inl ⟨by kernel_rfl, ?_⟩) (by assumption) ?_
  rotate_left
  · (intro w hSw; (try dsimp only at hSw); go_simp) <;> (try (with_reducible rfl))
  try simp only [Act.put, Array.getInternal_eq_getElem, List.getElem_toArray, List.getElem_cons_zero, List.getElem_cons_succ, List.setIfInBounds_toArray, List.set_cons_zero, List.set_cons_succ]
  refine wpAnyH_take (i := 22) (v := ?_) rfl (by kernel_rfl) (by kernel_rfl) (by kernel_rfl) (fun _ _ _ h => h) (Or.inl ⟨by kernel_rfl, ?_⟩) (by assumption) ?_
  rotate_left
  · (intro w hSw; (try dsimp only at hSw); go_simp) <;> (try (with_reducible rfl))
  try simp only [Act.put, Array.getInternal_eq_getElem, List.getElem_toArray, List.getElem_cons_zero, List.getElem_cons_succ, List.setIfInBounds_toArray, List.set_cons_zero, List.set_cons_succ]
  refine wpAnyH_take (i := 23) (v := ?_) rfl (by kernel_rfl) (by kernel_rfl) (by kernel_rfl) (fun _ _ _ h => h) (Or.inl ⟨by kernel_rfl, ?_⟩) (by assumption) ?_
  rotate_left
  · (intro w hSw; (try dsimp only at hSw); go_simp) <;> (try (with_reducible rfl))
  try simp only [Act.put, Array.getInternal_eq_getElem, List.getElem_toArray, List.getElem_cons_zero, List.getElem_cons_succ, List.setIfInBounds_toArray, List.set_cons_zero, List.set_cons_succ]
  refine wpAnyH_ready (rs := [4]) (by kernel_rfl) (by simp) ?_
  refine AllReadyH.cons rfl (fun K hK => ?_) AllReadyH.nil
  (rw [if_pos (by kernel_rfl)]; go_simp; go_at_call 51; refine (HD0 _).out.mono ?_; rintro e w2 ⟨rfl, d0, rfl⟩)
  refine hK.out _ _ ⟨x1, x2, x3, x4⟩ (fun hHeld => ?_)
  clear hK K
  try simp only [Act.put, Array.getInternal_eq_getElem, List.getElem_toArray, List.getElem_cons_zero, List.getElem_cons_succ, List.setIfInBounds_toArray, List.set_cons_zero, List.set_cons_succ]
  refine wpAnyH_take (i := 5) (v := ?_) rfl (by kernel_rfl) (by kernel_rfl) (by kernel_rfl) (fun _ _ _ h => h) (Or.inl ⟨by kernel_rfl, ?_⟩) (by assumption) ?_
  rotate_left
  · (intro w hSw; (try dsimp only at hSw); go_simp) <;> (try (with_reducible rfl))
  try simp only [Act.put, Array.getInternal_eq_getElem, List.getElem_toArray, List.getElem_cons_zero, List.getElem_cons_succ, List.setIfInBounds_toArray, List.set_cons_zero, List.set_cons_succ]
  refine wpAnyH_ready (rs := [10]) (by kernel_rfl) (by simp) ?_
  refine AllReadyH.cons rfl (fun K hK => ?_) AllReadyH.nil
  (rw [if_pos (by kernel_rfl)]; go_simp; go_at_call 51; refine (HD1 _).out.mono ?_; rintro e w2 ⟨rfl, d1, rfl⟩)
  refine hK.out _ _ ⟨x1, x2, x3, x4⟩ (fun hHeld => ?_)
  clear hK K
  try simp only [Act.put, Array.getInternal_eq_getElem, List.getElem_toArray, List.getElem_cons_zero, List.getElem_cons_succ, List.setIfInBounds_toArray, List.set_cons_zero, List.set_cons_succ]
  refine wpAnyH_take (i := 11) (v := ?_) rfl (by kernel_rfl) (by kernel_rfl) (by kernel_rfl) (fun _ _ _ h => h) (Or.inl ⟨by kernel_rfl, ?_⟩) (by assumption) ?_
  rotate_left
  · (intro w hSw; (try dsimp only at hSw); go_simp) <;> (try (with_reducible rfl))
  try simp only [Act.put, Array.getInternal_eq_getElem, List.getElem_toArray, List.getElem_cons_zero, List.getElem_cons_succ, List.setIfInBounds_toArray, List.set_cons_zero, List.set_cons_succ]
  refine wpAnyH_take (i := 12) (v := ?_) rfl (by kernel_rfl) (by kernel_rfl) (by kernel_rfl) (fun _ _ _ h => h) (Or.inl ⟨by kernel_rfl, ?_⟩) (by assumption) ?_
  rotate_left
  · (intro w hSw; (try dsimp only at hSw); go_simp) <;> (try (with_reducible rfl))
  try simp only [Act.put, Array.getInternal_eq_getElem, List.getElem_toArray, List.getElem_cons_zero, List.getElem_cons_succ, List.setIfInBounds_toArray, List.set_cons_zero, List.set_cons_succ]
  refine wpAnyH_ready (rs := [17]) (by kernel_rfl) (by simp) ?_
  refine AllReadyH.cons rfl (fun K hK => ?_) AllReadyH.nil
  (rw [if_pos (by kernel_rfl)]; go_simp; go_at_call 51; refine (HD2 _).out.mono ?_; rintro e w2 ⟨rfl, d2, rfl⟩)
  refine hK.out _ _ ⟨x1, x2, x3, x4⟩ (fun hHeld => ?_)
  clear hK K
  try simp only [Act.put, Array.getInternal_eq_getElem, List.getElem_toArray, List.getElem_cons_zero, List.getElem_cons_succ, List.setIfInBounds_toArray, List.set_cons_zero, List.set_cons_succ]
  refine wpAnyH_take (i := 18) (v := ?_) rfl (by kernel_rfl) (by kernel_rfl) (by kernel_rfl) (fun _ _ _ h => h) (Or.inl ⟨by kernel_rfl, ?_⟩) (by assumption) ?_
  rotate_left
  · (intro w hSw; (try dsimp only at hSw); go_simp) <;> (try (with_reducible rfl))
  try simp only [Act.put, Array.getInternal_eq_getElem, List.getElem_toArray, List.getElem_cons_zero, List.getElem_cons_succ, List.setIfInBounds_toArray, List.set_cons_zero, List.set_cons_succ]
  refine wpAnyH_take (i := 19) (v := ?_) rfl (by kernel_rfl) (by kernel_rfl) (by kernel_rfl) (fun _ _ _ h => h) (Or.inl ⟨by kernel_rfl, ?_⟩) (by assumption) ?_
  rotate_left
  · (intro w hSw; (try dsimp only at hSw); go_simp) <;> (try (with_reducible rfl))
  try simp only [Act.put, Array.getInternal_eq_getElem, List.getElem_toArray, List.getElem_cons_zero, List.getElem_cons_succ, List.setIfInBounds_toArray, List.set_cons_zero, List.set_cons_succ]
  refine wpAnyH_ready (rs := [24]) (by kernel_rfl) (by simp) ?_
  refine AllReadyH.cons rfl (fun K hK => ?_) AllReadyH.nil
  (rw [if_pos (by kernel_rfl)]; go_simp; go_at_call 51; refine (HD3 _).out.mono ?_; rintro e w2 ⟨rfl, d3, rfl⟩)
  refine hK.out _ _ ⟨x1, x2, x3, x4⟩ (fun hHeld => ?_)
  clear hK K
  try simp only [Act.put, Array.getInternal_eq_getElem, List.getElem_toArray, List.getElem_cons_zero, List.getElem_cons_succ, List.setIfInBounds_toArray, List.set_cons_zero, List.set_cons_succ]
  refine wpAnyH_take (i := 25) (v := ?_) rfl (by kernel_rfl) (by kernel_rfl) (by kernel_rfl) (fun _ _ _ h => h) (Or.inl ⟨by kernel_rfl, ?_⟩) (by assumption) ?_
  rotate_left
  · (intro w hSw; (try dsimp only at hSw); go_simp) <;> (try (with_reducible rfl))
  try simp only [Act.put, Array.getInternal_eq_getElem, List.getElem_toArray, List.getElem_cons_zero, List.getElem_cons_succ, List.setIfInBounds_toArray, List.set_cons_zero, List.set_cons_succ]
  refine wpAnyH_take (i := 26) (v := ?_) rfl (by kernel_rfl) (by kernel_rfl) (by kernel_rfl) (fun _ _ _ h => h) (Or.inl ⟨by kernel_rfl, ?_⟩) (by assumption) ?_
  rotate_left
  · (intro w hSw; (try dsimp only at hSw); go_simp) <;> (try (with_reducible rfl))
  try simp only [Act.put, Array.getInternal_eq_getElem, List.getElem_toArray, List.getElem_cons_zero, List.getElem_cons_succ, List.setIfInBounds_toArray, List.set_cons_zero, List.set_cons_succ]
  refine wpAnyH_take (i := 27) (v := ?_) rfl (by kernel_rfl) (by kernel_rfl) (by kernel_rfl) (fun _ _ _ h => h) (Or.inl ⟨by kernel_rfl, ?_⟩) (by assumption) ?_
  rotate_left
  · (intro w hSw; (try dsimp only at hSw); go_simp) <;> (try (with_reducible rfl))
  try simp only [Act.put, Array.getInternal_eq_getElem, List.getElem_toArray, List.getElem_cons_zero, List.getElem_cons_succ, List.setIfInBounds_toArray, List.set_cons_zero, List.set_cons_succ]
  refine wpAnyH_done ?_ ?_ _
  · kernel_rfl
  go_wp2
  try rw [Exit.noGoto_ret]
  go_ret2
  exact ⟨by rw [HT.out]; simp only [← str_append]; rfl, fun S => (K1.out S).trans ((Keeps.of_drew _ _).trans (Keeps.of_drew _ _))⟩
set_option maxRecDepth 100000 in
set_option maxHeartbeats 8000000 in
theorem addrtext_six (ha : a.Wf) (ho : okA a) (h6 : a.v6 = true) : Calls Tryz.prog 28 #[av a] w fun e w' => e = .returned (.tuple #[.string (str (atext a)), .int .i64 0]) ∧ ∀ S, Keeps S w w' := by
  have b0 := Blk.new w 24 (adc a).toArray
  have HLD := Lib.hid (Blk.range b0)
  have HSX := Lib.hid (show (Tryz.prog.info? 24).map (·.size) = some (adc a).length from by rw [adc_len ha]; exact addr_info)
  have hc := fun w => checkaddr_ a w ha
  rw [errA_ok ho] at hc
  have HC := Lib.hid (hc (w.alloc (.cells (adc a).toArray 24)))
  have HR := fun w => Lib.hid (row_ a w ha)
  have HN := fun w i hi => Lib.hid (number_ a w i ha hi)
  have hrl := (rowUp_le (num a) 8 (by omega)).1
  obtain ⟨T, hT⟩ : ∃ T, T = atext a := ⟨_, rfl⟩
  rw [← hT]
  have HT : Hid (T = t6up (num a) (rowUp (num a) 8).1 (rowUp (num a) 8).2 8) := Lib.hid (by rw [hT]; unfold atext; rw [if_pos h6]; rfl)
  clear hT
  have HL := Lib.hid (num_lt ha)
  generalize (rowUp (num a) 8).1 = p1 at *
  generalize (rowUp (num a) 8).2 = p2 at *
  obtain ⟨nm, hnm⟩ : ∃ nm, nm = num a := ⟨_, rfl⟩
  rw [← hnm] at HN HT HL
  have HB := Lib.hid (And.intro b0 h6)
  unfold av at HC HR HN ⊢
  clear b0 ha ho hc h6 hnm
  generalize hC : adc a = C at *
  have HCC := Lib.hid hC
  clear hC
  go_enter Tryz.func28, Tryz.ntmps28
  go_wp2_with (refine wpList_load_mid rfl 24 _ rfl w.heap.size 0 rfl C _ HLD.out Tryz.underlying24 rfl HSX.out ?_)
  refine HC.out.mono ?_
  rintro e w1 ⟨rfl, k1⟩
  have K1 : Hid (∀ S, Keeps S w w1) := Lib.hid (fun S => ((Keeps.refl S w).alloc _).trans (k1 S))
  have b1 := Blk.keeps HB.out.1 (k1 (fun _ => False)) (fun z => z)
  have HLD1 := Lib.hid (Blk.range b1)
  have B1 := Lib.hid b1
  have b2 := b1
  rw [← HCC.out] at b2
  have x0 := ad_v6 b2
  rw [HB.out.2] at x0
  clear k1 b1 b2 HLD HC HB
  go_wp2_with (refine wpList_load_mid rfl 24 _ rfl w.heap.size 0 rfl C _ HLD1.out Tryz.underlying24 rfl HSX.out ?_)
  refine (HR w1).out.mono ?_
  rintro e w2 ⟨rfl, k2⟩
  have K2 : Hid (∀ S, Keeps S w w2) := Lib.hid (fun S => (K1.out S).trans (k2 S))
  have B2 := Lib.hid (Blk.keeps B1.out (k2 (fun _ => False)) (fun z => z))
  clear k2 HLD1 x0 B1 K1 HR
  obtain ⟨r, hr⟩ : ∃ r, r = p1 + p2 := ⟨_, rfl⟩
  have hrw : wrap64 ((p1 : Int) + (p2 : Int)) = (r : Int) := by unfold wrap64; omega
  have HRR := Lib.hid (And.intro hr hrl)
  clear hr hrl
  go_wp2_with fail
  go_loopw [6, 7] (fun s i wr => ∃ k : Nat, k ≤ 8 ∧ i = .int .i64 (k : Int) ∧ s = .string (str (t6up nm p1 p2 k)) ∧ ∀ S, Keeps S w2 wr) (fun _ i _ => 8 - (intOf i).toNat)
  case atStart => exact ⟨0, by omega, rfl, rfl, fun S => Keeps.refl S w2⟩
  case round =>
    obtain ⟨k, hk, rfl, rfl, hkk⟩ := hrel
    have HK : Hid (∀ S, Keeps S w2 wr) := Lib.hid hkk
    clear hkk
    by_cases hlt : k < 8
    · have hlt' : (k : Int) < 8 := by omega
      have hLL := t6up_len nm p1 p2 k
      obtain ⟨L, hL⟩ : ∃ L, L = t6up nm p1 p2 k := ⟨_, rfl⟩
      have HLL := Lib.hid hL
      rw [← hL] at hLL ⊢
      have HKL := Lib.hid (And.intro hk hlt)
      have hhx := hx_len (nm k)
      have HD := Lib.hid (fun w => hex_ (nm k) w (HL.out k))
      have HNK := Lib.hid (fun w => (HN w k hlt).out)
      have HLDR := Lib.hid (Blk.range (Blk.keeps B2.out (HK.out (fun _ => False)) (fun z => z)))
      obtain ⟨X, hX⟩ : ∃ X, X = hx (nm k) := ⟨_, rfl⟩
      have HX := Lib.hid hX
      rw [← hX] at hhx HD
      have z1 : ¬ 9223372036854775807 < (str L).size + 2 := by rw [str_size]; omega
      have z2 : ¬ 9223372036854775807 < (str L).size + 1 := by rw [str_size]; omega
      have z3 : ¬ 9223372036854775807 < (str L).size + (str X).size := by rw [str_size, str_size]; omega
      have z4 : ¬ 9223372036854775807 < (str L).size + 1 + (str X).size := by rw [str_size, str_size]; omega
      clear hL hk hlt hhx hLL hX
      by_cases hp : 1 < p2
      · have hp' : (1 : Int) < (p2 : Int) := by omega
        by_cases c1 : k = p1
        · have c1a : (k : Int) = (p1 : Int) := by omega
          have c1b : (p1 : Int) ≤ (k : Int) := by omega
          have c1c : (k : Int) < (r : Int) := by have := HRR.out; omega
          have c1d : (p1 : Int) < (r : Int) := by have := HRR.out; omega
          go_wp2_with fail
          go_roundw
          case rel => exact ⟨k + 1, by have := HKL.out; omega, by first | rfl | (have := HKL.out; go_num), by
            have := HKL.out
            have := HRR.out
            have e : t6up nm p1 p2 (k + 1) = L ++ [58, 58] := by
              rw [t6up, ← HLL.out]
              unfold sep piece col
              rw [if_pos ⟨hp, c1⟩, if_pos ⟨hp, by omega, by omega⟩, List.append_nil]
            rw [e]
            try simp only [← str_append]
            try rfl, HK.out⟩
          case measure => simp [intOf] <;> (have := HKL.out; omega)
        · have c1a : ¬ (k : Int) = (p1 : Int) := by omega
          by_cases c2 : p1 ≤ k ∧ k < r
          · have c2a : (p1 : Int) ≤ (k : Int) := by omega
            have c2b : (k : Int) < (r : Int) := by omega
            go_wp2_with fail
            go_roundw
            case rel => exact ⟨k + 1, by have := HKL.out; omega, by first | rfl | (have := HKL.out; go_num), by
              have := HKL.out
              have := HRR.out
              have e : t6up nm p1 p2 (k + 1) = L := by
                rw [t6up, ← HLL.out]
                unfold sep piece col
                rw [if_neg (by omega), if_pos ⟨hp, by omega, by omega⟩, List.append_nil, List.append_nil]
              rw [e]
              try simp only [← str_append]
              try rfl, HK.out⟩
            case measure => simp [intOf] <;> (have := HKL.out; omega)
          · have c2x : (p1 ≤ k ∧ r ≤ k) ∨ (¬ p1 ≤ k) := by omega
            by_cases c3 : k = r
            · subst c3
              have c3b : (p1 : Int) ≤ (k : Int) := by have := HRR.out; omega
              have c3d : (0 : Int) < (k : Int) := by have := HRR.out; omega
              clear c2x c2
              go_wp2_with ((with_reducible show wpList _ _ _ (⟨some 89, _, _, _, _, _⟩ :: _) _ _); refine wpList_load_mid rfl 24 _ rfl w.heap.size 0 rfl C _ HLDR.out Tryz.underlying24 rfl HSX.out ?_)
              refine (HNK.out _).mono ?_
              rintro e w3 ⟨rfl, k3⟩
              have K3 : Hid (∀ S, Keeps S w2 w3) := Lib.hid (fun S => (HK.out S).trans (k3 S))
              clear k3
              go_wp2_with fail
              refine (HD.out _).mono ?_
              rintro e w4 ⟨rfl, d, rfl⟩
              go_wp2_with fail
              go_roundw
              case rel => exact ⟨k + 1, by have := HKL.out; omega, by first | rfl | (have := HKL.out; go_num), by
                have := HKL.out
                have := HRR.out
                have e : t6up nm p1 p2 (k + 1) = L ++ X := by
                  rw [t6up, ← HLL.out]
                  unfold sep piece col
                  rw [if_neg (by omega), if_neg (by omega), if_neg (by omega), List.append_nil, List.nil_append, ← HX.out]
                rw [e]
                try simp only [← str_append]
                try rfl, fun S => (K3.out S).trans (Keeps.of_drew _ _)⟩
              case measure => simp [intOf] <;> (have := HKL.out; omega)
            · have c3a : ¬ (k : Int) = (r : Int) := by omega
              have c3z : ((k : Int) == (r : Int)) = false := by rw [beq_eq_false_iff_ne]; exact c3a
              by_cases c4 : k = 0
              · have hi0 : ((0 : Nat) : Int) = 0 := rfl
                subst c4
                have c4a : ¬ (p1 : Int) ≤ 0 := by have := HRR.out; omega
                rw [hi0] at HNK c3a c1a c3z
                clear c2x hi0 hlt' c1 c2 c3
                go_wp2_with ((with_reducible show wpList _ _ _ (⟨some 89, _, _, _, _, _⟩ :: _) _ _); refine wpList_load_mid rfl 24 _ rfl w.heap.size 0 rfl C _ HLDR.out Tryz.underlying24 rfl HSX.out ?_)
                refine (HNK.out _).mono ?_
                rintro e w3 ⟨rfl, k3⟩
                have K3 : Hid (∀ S, Keeps S w2 w3) := Lib.hid (fun S => (HK.out S).trans (k3 S))
                clear k3
                go_wp2_with fail
                refine (HD.out _).mono ?_
                rintro e w4 ⟨rfl, d, rfl⟩
                go_wp2_with fail
                go_roundw
                case rel => exact ⟨0 + 1, by have := HKL.out; omega, by first | rfl | (have := HKL.out; go_num), by
                  have := HKL.out
                  have := HRR.out
                  have e : t6up nm p1 p2 (0 + 1) = L ++ X := by
                    rw [t6up, ← HLL.out]
                    unfold sep piece col
                    rw [if_neg (by omega), if_neg (by omega), if_neg (by omega), List.append_nil, List.nil_append, ← HX.out]
                  rw [e]
                  try simp only [← str_append]
                  try rfl, fun S => (K3.out S).trans (Keeps.of_drew _ _)⟩
                case measure => simp [intOf] <;> (have := HKL.out; omega)
              · have c4b : (0 : Int) < (k : Int) := by omega
                rcases c2x with c5 | c5
                · have c5a : (p1 : Int) ≤ (k : Int) := by omega
                  have c5b : ¬ (k : Int) < (r : Int) := by omega
                  clear c5
                  go_wp2_with ((with_reducible show wpList _ _ _ (⟨some 89, _, _, _, _, _⟩ :: _) _ _); refine wpList_load_mid rfl 24 _ rfl w.heap.size 0 rfl C _ HLDR.out Tryz.underlying24 rfl HSX.out ?_)
                  refine (HNK.out _).mono ?_
                  rintro e w3 ⟨rfl, k3⟩
                  have K3 : Hid (∀ S, Keeps S w2 w3) := Lib.hid (fun S => (HK.out S).trans (k3 S))
                  clear k3
                  go_wp2_with fail
                  refine (HD.out _).mono ?_
                  rintro e w4 ⟨rfl, d, rfl⟩
                  go_wp2_with fail
                  go_roundw
                  case rel => exact ⟨k + 1, by have := HKL.out; omega, by first | rfl | (have := HKL.out; go_num), by
                    have := HKL.out
                    have := HRR.out
                    have e : t6up nm p1 p2 (k + 1) = L ++ [58] ++ X := by
                      rw [t6up, ← HLL.out]
                      unfold sep piece col
                      rw [if_neg (by omega), if_neg (by omega), if_pos (by omega), List.append_nil, ← HX.out, ← List.append_assoc]
                    rw [e]
                    try simp only [← str_append]
                    try rfl, fun S => (K3.out S).trans (Keeps.of_drew _ _)⟩
                  case measure => simp [intOf] <;> (have := HKL.out; omega)
                · have c5a : ¬ (p1 : Int) ≤ (k : Int) := by omega
                  clear c5
                  go_wp2_with ((with_reducible show wpList _ _ _ (⟨some 89, _, _, _, _, _⟩ :: _) _ _); refine wpList_load_mid rfl 24 _ rfl w.heap.size 0 rfl C _ HLDR.out Tryz.underlying24 rfl HSX.out ?_)
                  refine (HNK.out _).mono ?_
                  rintro e w3 ⟨rfl, k3⟩
                  have K3 : Hid (∀ S, Keeps S w2 w3) := Lib.hid (fun S => (HK.out S).trans (k3 S))
                  clear k3
                  go_wp2_with fail
                  refine (HD.out _).mono ?_
                  rintro e w4 ⟨rfl, d, rfl⟩
                  go_wp2_with fail
                  go_roundw
                  case rel => exact ⟨k + 1, by have := HKL.out; omega, by first | rfl | (have := HKL.out; go_num), by
                    have := HKL.out
                    have := HRR.out
                    have e : t6up nm p1 p2 (k + 1) = L ++ [58] ++ X := by
                      rw [t6up, ← HLL.out]
                      unfold sep piece col
                      rw [if_neg (by omega), if_neg (by omega), if_pos (by omega), List.append_nil, ← HX.out, ← List.append_assoc]
                    rw [e]
                    try simp only [← str_append]
                    try rfl, fun S => (K3.out S).trans (Keeps.of_drew _ _)⟩
                  case measure => simp [intOf] <;> (have := HKL.out; omega)
      · have hp' : ¬ (1 : Int) < (p2 : Int) := by omega
        by_cases c4 : k = 0
        · have hi0 : ((0 : Nat) : Int) = 0 := rfl
          subst c4
          rw [hi0] at HNK
          clear hi0 hlt'
          go_wp2_with ((with_reducible show wpList _ _ _ (⟨some 89, _, _, _, _, _⟩ :: _) _ _); refine wpList_load_mid rfl 24 _ rfl w.heap.size 0 rfl C _ HLDR.out Tryz.underlying24 rfl HSX.out ?_)
          refine (HNK.out _).mono ?_
          rintro e w3 ⟨rfl, k3⟩
          have K3 : Hid (∀ S, Keeps S w2 w3) := Lib.hid (fun S => (HK.out S).trans (k3 S))
          clear k3
          go_wp2_with fail
          refine (HD.out _).mono ?_
          rintro e w4 ⟨rfl, d, rfl⟩
          go_wp2_with fail
          go_roundw
          case rel => exact ⟨0 + 1, by have := HKL.out; omega, by first | rfl | (have := HKL.out; go_num), by
            have := HKL.out
            have := HRR.out
            have e : t6up nm p1 p2 (0 + 1) = L ++ X := by
              rw [t6up, ← HLL.out]
              unfold sep piece col
              rw [if_neg (by omega), if_neg (by omega), if_neg (by omega), List.append_nil, List.nil_append, ← HX.out]
            rw [e]
            try simp only [← str_append]
            try rfl, fun S => (K3.out S).trans (Keeps.of_drew _ _)⟩
          case measure => simp [intOf] <;> (have := HKL.out; omega)
        · have c4b : (0 : Int) < (k : Int) := by omega
          go_wp2_with ((with_reducible show wpList _ _ _ (⟨some 89, _, _, _, _, _⟩ :: _) _ _); refine wpList_load_mid rfl 24 _ rfl w.heap.size 0 rfl C _ HLDR.out Tryz.underlying24 rfl HSX.out ?_)
          refine (HNK.out _).mono ?_
          rintro e w3 ⟨rfl, k3⟩
          have K3 : Hid (∀ S, Keeps S w2 w3) := Lib.hid (fun S => (HK.out S).trans (k3 S))
          clear k3
          go_wp2_with fail
          refine (HD.out _).mono ?_
          rintro e w4 ⟨rfl, d, rfl⟩
          go_wp2_with fail
          go_roundw
          case rel => exact ⟨k + 1, by have := HKL.out; omega, by first | rfl | (have := HKL.out; go_num), by
            have := HKL.out
            have := HRR.out
            have e : t6up nm p1 p2 (k + 1) = L ++ [58] ++ X := by
              rw [t6up, ← HLL.out]
              unfold sep piece col
              rw [if_neg (by omega), if_neg (by omega), if_pos (by omega), List.append_nil, ← HX.out, ← List.append_assoc]
            rw [e]
            try simp only [← str_append]
            try rfl, fun S => (K3.out S).trans (Keeps.of_drew _ _)⟩
          case measure => simp [intOf] <;> (have := HKL.out; omega)
    · obtain rfl : k = 8 := by omega
      rw [← HT.out]
      go_wp2
      try rw [Exit.noGoto_ret]
      go_ret2
      exact ⟨rfl, fun S => (K2.out S).trans (HK.out S)⟩
theorem addrtext_ (ha : a.Wf) : Calls Tryz.prog 28 #[av a] w fun e w' => (okA a ∧ e = .returned (.tuple #[.string (str (atext a)), .int .i64 0]) ∨ ¬ okA a ∧ e = .returned (.tuple #[.string (str []), .int .i64 150])) ∧ ∀ S, Keeps S w w' := by
  by_cases ho : okA a
  · cases h6 : a.v6
    · exact (addrtext_four a w ha ho h6).mono fun e w' h => ⟨.inl ⟨ho, h.1⟩, h.2⟩
    · exact (addrtext_six a w ha ho h6).mono fun e w' h => ⟨.inl ⟨ho, h.1⟩, h.2⟩
  · exact (addrtext_bad a w ha ho).mono fun e w' h => ⟨.inr ⟨ho, h.1⟩, h.2⟩
end
end Go.Proofs.YtgcdhfpbmcfedaaGreatDoor.pf
end
section
set_option linter.unusedVariables false
set_option linter.unusedSimpArgs false
namespace Go.Proofs.YtgcdhfpbmcfedaaGreatDoor.pf
open Go.RowKit Go.Proofs.YtgcdhfpbmcfedaaGreatDoor.oc Go.Proofs.YtgcdhfpbmcfedaaGreatDoor.mz Go.Proofs.YtgcdhfpbmcfedaaGreatDoor.wh
open Classical in
noncomputable def coversB (p q : Px) : Bool := decide (covers p q)
theorem coversB_no {p q : Px} (h : ¬ covers p q) : coversB p q = false := by unfold coversB; simp [h]
theorem coversB_has {p q : Px} (h1 : okP q) (h2 : p.bits ≤ q.bits) : coversB p q = hasB p q.a := by
  unfold coversB hasB covers
  simp [h1, h2]
section
variable (w : World)

set_option maxRecDepth 100000 in
set_option maxHeartbeats 4000000 in
theorem covers_q (p q : Px) (hp : p.a.Wf) (hq : q.a.Wf) (ho : ¬ okP q) : Calls Tryz.prog 25 #[pv p, pv q] w fun e w' => e = .returned (.bool (coversB p q)) ∧ ∀ S, Keeps S w w' := by
  have HCQ := fun w => Lib.hid (check_ w q hq)
  have HHS := fun w => Lib.hid (has_ w p q.a hp hq)
  have HSP := Lib.hid (show (Tryz.prog.info? 28).map (·.size) = some (pxc p).length from by rw [pxc_len hp]; exact prefix_info)
  have HSQ := Lib.hid (show (Tryz.prog.info? 28).map (·.size) = some (pxc q).length from by rw [pxc_len hq]; exact prefix_info)
  have HSA := Lib.hid (show (Tryz.prog.info? 24).map (·.size) = some (adc q.a).length from by rw [adc_len hq]; exact addr_info)
  obtain ⟨w1, hw1, k1, bP, bQ⟩ := box_two w (pxc p) (pxc q) 28 28
  have HL1 := Lib.hid (wh.Blk.range bQ)
  have HWF := Lib.hid (And.intro hp hq)
  have HW := Lib.hid hw1
  have K1 : Hid (∀ S, Keeps S w w1) := Lib.hid k1
  have BP := Lib.hid bP
  have BQ := Lib.hid bQ
  have HH := Lib.hid (coversB_no (p := p) (q := q) (fun z => ho z.1))
  rw [errP_no ho] at HCQ
  clear ho
  unfold pv at HCQ HHS
  unfold av at HHS
  unfold pv
  clear hw1 k1 bP bQ hp hq
  go_enter Tryz.func25, Tryz.ntmps25
  go_wp2_with (first | (rw [← HW.out]; refine wpList_load_mid rfl 28 _ rfl (w.heap.size + 1) 0 rfl (pxc q) _ HL1.out Tryz.underlying28 rfl HSQ.out ?_))
  refine (HCQ _).out.mono ?_
  rintro e w2 ⟨rfl, k2⟩
  have K2 : Hid (∀ S, Keeps S w w2) := Lib.hid (fun S => (K1.out S).trans (k2 S))
  have BP2 := Lib.hid (Blk.keeps BP.out (k2 (fun _ => False)) (fun z => z))
  have BQ2 := Lib.hid (Blk.keeps BQ.out (k2 (fun _ => False)) (fun z => z))
  have HL2 := Lib.hid (And.intro (wh.Blk.range BP2.out) (px_addr HWF.out.2 BQ2.out))
  have xp := px_bits HWF.out.1 BP2.out
  have xq := px_bits HWF.out.2 BQ2.out
  clear k2
  go_wp2
  try rw [Exit.noGoto_ret]
  go_ret
  exact ⟨by rw [HH.out]; rfl, K2.out⟩
set_option maxRecDepth 100000 in
set_option maxHeartbeats 4000000 in
theorem covers_few (p q : Px) (hp : p.a.Wf) (hq : q.a.Wf) (ho : okP q) (hb : ¬ p.bits ≤ q.bits) : Calls Tryz.prog 25 #[pv p, pv q] w fun e w' => e = .returned (.bool (coversB p q)) ∧ ∀ S, Keeps S w w' := by
  have HCQ := fun w => Lib.hid (check_ w q hq)
  have HHS := fun w => Lib.hid (has_ w p q.a hp hq)
  have HSP := Lib.hid (show (Tryz.prog.info? 28).map (·.size) = some (pxc p).length from by rw [pxc_len hp]; exact prefix_info)
  have HSQ := Lib.hid (show (Tryz.prog.info? 28).map (·.size) = some (pxc q).length from by rw [pxc_len hq]; exact prefix_info)
  have HSA := Lib.hid (show (Tryz.prog.info? 24).map (·.size) = some (adc q.a).length from by rw [adc_len hq]; exact addr_info)
  obtain ⟨w1, hw1, k1, bP, bQ⟩ := box_two w (pxc p) (pxc q) 28 28
  have HL1 := Lib.hid (wh.Blk.range bQ)
  have HWF := Lib.hid (And.intro hp hq)
  have HW := Lib.hid hw1
  have K1 : Hid (∀ S, Keeps S w w1) := Lib.hid k1
  have BP := Lib.hid bP
  have BQ := Lib.hid bQ
  have HH := Lib.hid (coversB_no (p := p) (q := q) (fun z => hb z.2.1))
  rw [errP_ok ho] at HCQ
  have hbd : decide (p.bits ≤ q.bits) = false := decide_eq_false hb
  clear ho
  unfold pv at HCQ HHS
  unfold av at HHS
  unfold pv
  clear hw1 k1 bP bQ hp hq
  go_enter Tryz.func25, Tryz.ntmps25
  go_wp2_with (first | (rw [← HW.out]; refine wpList_load_mid rfl 28 _ rfl (w.heap.size + 1) 0 rfl (pxc q) _ HL1.out Tryz.underlying28 rfl HSQ.out ?_))
  refine (HCQ _).out.mono ?_
  rintro e w2 ⟨rfl, k2⟩
  have K2 : Hid (∀ S, Keeps S w w2) := Lib.hid (fun S => (K1.out S).trans (k2 S))
  have BP2 := Lib.hid (Blk.keeps BP.out (k2 (fun _ => False)) (fun z => z))
  have BQ2 := Lib.hid (Blk.keeps BQ.out (k2 (fun _ => False)) (fun z => z))
  have HL2 := Lib.hid (And.intro (wh.Blk.range BP2.out) (px_addr HWF.out.2 BQ2.out))
  have xp := px_bits HWF.out.1 BP2.out
  have xq := px_bits HWF.out.2 BQ2.out
  clear k2
  go_wp2
  try rw [Exit.noGoto_ret]
  go_ret
  exact ⟨by rw [HH.out]; rfl, K2.out⟩
set_option maxRecDepth 100000 in
set_option maxHeartbeats 4000000 in
theorem covers_in (p q : Px) (hp : p.a.Wf) (hq : q.a.Wf) (ho : okP q) (hb : p.bits ≤ q.bits) : Calls Tryz.prog 25 #[pv p, pv q] w fun e w' => e = .returned (.bool (coversB p q)) ∧ ∀ S, Keeps S w w' := by
  have HCQ := fun w => Lib.hid (check_ w q hq)
  have HHS := fun w => Lib.hid (has_ w p q.a hp hq)
  have HSP := Lib.hid (show (Tryz.prog.info? 28).map (·.size) = some (pxc p).length from by rw [pxc_len hp]; exact prefix_info)
  have HSQ := Lib.hid (show (Tryz.prog.info? 28).map (·.size) = some (pxc q).length from by rw [pxc_len hq]; exact prefix_info)
  have HSA := Lib.hid (show (Tryz.prog.info? 24).map (·.size) = some (adc q.a).length from by rw [adc_len hq]; exact addr_info)
  obtain ⟨w1, hw1, k1, bP, bQ⟩ := box_two w (pxc p) (pxc q) 28 28
  have HL1 := Lib.hid (wh.Blk.range bQ)
  have HWF := Lib.hid (And.intro hp hq)
  have HW := Lib.hid hw1
  have K1 : Hid (∀ S, Keeps S w w1) := Lib.hid k1
  have BP := Lib.hid bP
  have BQ := Lib.hid bQ
  have HH := Lib.hid (coversB_has ho hb)
  rw [errP_ok ho] at HCQ
  clear ho
  unfold pv at HCQ HHS
  unfold av at HHS
  unfold pv
  clear hw1 k1 bP bQ hp hq
  go_enter Tryz.func25, Tryz.ntmps25
  go_wp2_with (first | (rw [← HW.out]; refine wpList_load_mid rfl 28 _ rfl (w.heap.size + 1) 0 rfl (pxc q) _ HL1.out Tryz.underlying28 rfl HSQ.out ?_))
  refine (HCQ _).out.mono ?_
  rintro e w2 ⟨rfl, k2⟩
  have K2 : Hid (∀ S, Keeps S w w2) := Lib.hid (fun S => (K1.out S).trans (k2 S))
  have BP2 := Lib.hid (Blk.keeps BP.out (k2 (fun _ => False)) (fun z => z))
  have BQ2 := Lib.hid (Blk.keeps BQ.out (k2 (fun _ => False)) (fun z => z))
  have HL2 := Lib.hid (And.intro (wh.Blk.range BP2.out) (px_addr HWF.out.2 BQ2.out))
  have xp := px_bits HWF.out.1 BP2.out
  have xq := px_bits HWF.out.2 BQ2.out
  clear k2
  go_wp2_with (first | (refine wpList_load_want (by kernel_rfl) 28 _ rfl w.heap.size 0 rfl (pxc p) _ HL2.out.1 Tryz.underlying28 rfl HSP.out ?_) | (refine wpList_load_want (by kernel_rfl) 24 _ rfl (w.heap.size + 1) 0 rfl (adc q.a) _ HL2.out.2 Tryz.underlying24 rfl HSA.out ?_))
  refine (HHS _).out.mono ?_
  rintro e w3 ⟨rfl, k3⟩
  have K3 : Hid (∀ S, Keeps S w w3) := Lib.hid (fun S => (K2.out S).trans (k3 S))
  clear k3
  go_wp2
  try rw [Exit.noGoto_ret]
  go_ret
  exact ⟨by rw [HH.out]; rfl, K3.out⟩
theorem covers_ (p q : Px) (hp : p.a.Wf) (hq : q.a.Wf) : Calls Tryz.prog 25 #[pv p, pv q] w fun e w' => e = .returned (.bool (coversB p q)) ∧ ∀ S, Keeps S w w' := by
  by_cases ho : okP q
  · by_cases hb : p.bits ≤ q.bits
    · exact covers_in w p q hp hq ho hb
    · exact covers_few w p q hp hq ho hb
  · exact covers_q w p q hp hq ho
theorem cmpB_low : ∀ (k : Nat) (l m : List Nat) (x y : Nat), (∀ j, j < k → l[j]?.getD 0 = m[j]?.getD 0) → l[k]? = some x → m[k]? = some y → (x < y → cmpB l m = -1) ∧ (y < x → cmpB l m = 1)
  | k, [], _, x, y, _, h, _ => by simp at h
  | k, _, [], x, y, _, _, h => by simp at h
  | 0, a :: l, b :: m, x, y, _, h1, h2 => by
    simp at h1 h2
    subst h1; subst h2
    unfold cmpB
    constructor
    · intro h; rw [if_pos h]
    · intro h; rw [if_neg (by omega), if_pos h]
  | k + 1, a :: l, b :: m, x, y, h, h1, h2 => by
    have h0 := h 0 (by omega)
    simp at h0
    subst h0
    simp only [List.getElem?_cons_succ] at h1 h2
    have ih := cmpB_low k l m x y (fun j hj => by have := h (j + 1) (by omega); simpa using this) h1 h2
    unfold cmpB
    rw [if_neg (Nat.lt_irrefl _), if_neg (Nat.lt_irrefl _)]
    exact ih
theorem cmpB_same : ∀ (l m : List Nat), l.length = m.length → (∀ j, j < l.length → l[j]?.getD 0 = m[j]?.getD 0) → cmpB l m = 0
  | [], _, _, _ => by unfold cmpB; rfl
  | a :: l, [], h, _ => by simp at h
  | a :: l, b :: m, h, hs => by
    have h0 := hs 0 (by simp)
    simp at h0
    subst h0
    unfold cmpB
    rw [if_neg (Nat.lt_irrefl _), if_neg (Nat.lt_irrefl _)]
    exact cmpB_same l m (by simpa using h) (fun j hj => by have := hs (j + 1) (by simp; omega); simpa using this)
set_option maxRecDepth 100000 in
set_option maxHeartbeats 4000000 in
theorem compare_ (p q : Px) (hp : p.a.Wf) (hq : q.a.Wf) : Calls Tryz.prog 23 #[pv p, pv q] w fun e w' => e = .returned (.int .i64 (cmp p q)) ∧ ∀ S, Keeps S w w' := by
  obtain ⟨w1, hw1, k1, bP, bQ⟩ := box_two w (pxc p) (pxc q) 28 28
  have xp := px_v6 bP
  have xq := px_v6 bQ
  have HWF := Lib.hid (And.intro hp hq)
  have HW := Lib.hid hw1
  have K1 : Hid (∀ S, Keeps S w w1) := Lib.hid k1
  have BP := Lib.hid bP
  have BQ := Lib.hid bQ
  rw [hw1] at xp xq
  unfold pv
  clear hw1 k1 bP bQ hp hq
  cases hvp : p.a.v6 <;> cases hvq : q.a.v6
  case false.true | true.false =>
    rw [hvp] at xp
    rw [hvq] at xq
    have HH := Lib.hid (show cmp p q = (if q.a.v6 then -1 else 1) from by unfold cmp; rw [hvp, hvq]; rfl)
    rw [hvq] at HH
    clear hvp hvq
    go_enter Tryz.func23, Tryz.ntmps23
    go_wp2_with fail
    try rw [Exit.noGoto_ret]
    go_ret
    exact ⟨by rw [HH.out]; rfl, by rw [← HW.out]; exact K1.out⟩
  all_goals
    rw [hvp] at xp
    rw [hvq] at xq
    have HV := Lib.hid (hvp.trans hvq.symm)
    clear hvp hvq
    go_enter Tryz.func23, Tryz.ntmps23
    go_wp2_with fail
    rw [← HW.out]
    generalize hQ : w.heap.size + 1 = Q at *
    generalize hP : w.heap.size = P at *
    clear xp xq HW hQ hP
    go_loopw [5] (fun i wr => ∃ k : Nat, k ≤ 16 ∧ i = .int .i64 (k : Int) ∧ Blk wr P 28 (pxc p) ∧ Blk wr Q 28 (pxc q) ∧ (∀ S, Keeps S w wr) ∧ ∀ j, j < k → byt p.a j = byt q.a j) (fun i _ => 200 - (intOf i).toNat)
    case atStart => exact ⟨0, Nat.zero_le _, rfl, BP.out, BQ.out, K1.out, fun j h => by omega⟩
    case round =>
      obtain ⟨k, h1, rfl, bp, bq, kr, hz⟩ := hrel
      have k0 : (0 : Int) ≤ (k : Int) := by omega
      have BPr := Lib.hid bp
      have BQr := Lib.hid bq
      have KR : Hid (∀ S, Keeps S w wr) := Lib.hid kr
      have HZ := Lib.hid hz
      clear bp bq kr hz
      by_cases hlt : k < 16
      · have hlt' : (k : Int) < 16 := by omega
        have x0 := px_byt HWF.out.1 BPr.out hlt
        have y0 := px_byt HWF.out.2 BQr.out hlt
        have HC := Lib.hid (cmpB_low k p.a.B q.a.B (byt p.a k) (byt q.a k) HZ.out (byt_some HWF.out.1 hlt) (byt_some HWF.out.2 hlt))
        obtain ⟨x, hx⟩ : ∃ x, x = byt p.a k := ⟨_, rfl⟩
        obtain ⟨y, hy⟩ : ∃ y, y = byt q.a k := ⟨_, rfl⟩
        rw [← hx] at x0 HC
        rw [← hy] at y0 HC
        have HXY := Lib.hid (And.intro hx hy)
        clear hx hy
        rcases Nat.lt_trichotomy x y with h | h | h
        · have h' : (x : Int) < (y : Int) := by omega
          have HH := Lib.hid (show cmp p q = -1 from by unfold cmp; rw [if_pos HV.out, HC.out.1 h]; rfl)
          clear h
          go_wp2_with fail
          go_quiet (fail)
          go_wp2
          try rw [Exit.noGoto_ret]
          go_ret
          exact ⟨by rw [HH.out]; rfl, fun S => (KR.out S).trans (Keeps.of_drew _ _)⟩
        · have h' : ¬ (x : Int) < (y : Int) := by omega
          have h'' : ¬ (y : Int) < (x : Int) := by omega
          have HEQ := Lib.hid h
          clear h
          go_wp2_with fail
          go_quiet (fail)
          go_wp2_with fail
          go_quiet (fail)
          go_wp2_with fail
          go_roundw
          case rel => exact ⟨k + 1, by omega, by go_num, Blk.keeps BPr.out (Keeps.of_drew (S := fun _ => False) _ _) (fun z => z), Blk.keeps BQr.out (Keeps.of_drew (S := fun _ => False) _ _) (fun z => z), fun S => (KR.out S).trans (Keeps.of_drew _ _), upto HZ.out (by rw [← HXY.out.1, ← HXY.out.2, HEQ.out])⟩
          case measure => simp [intOf]; omega
        · have h' : ¬ (x : Int) < (y : Int) := by omega
          have h'' : (y : Int) < (x : Int) := by omega
          have HH := Lib.hid (show cmp p q = 1 from by unfold cmp; rw [if_pos HV.out, HC.out.2 h]; rfl)
          clear h
          go_wp2_with fail
          go_quiet (fail)
          go_wp2_with fail
          go_quiet (fail)
          go_wp2
          try rw [Exit.noGoto_ret]
          go_ret
          exact ⟨by rw [HH.out]; rfl, fun S => ((KR.out S).trans (Keeps.of_drew _ _)).trans (Keeps.of_drew _ _)⟩
      · obtain rfl : k = 16 := by omega
        have xb := px_bits HWF.out.1 BPr.out
        have yb := px_bits HWF.out.2 BQr.out
        have hc0 := cmpB_same p.a.B q.a.B (by rw [HWF.out.1.len, HWF.out.2.len]) (fun j hj => HZ.out j (by have := HWF.out.1.len; omega))
        have HH := Lib.hid (show cmp p q = if p.bits < q.bits then -1 else if q.bits < p.bits then 1 else 0 from by unfold cmp; rw [if_pos HV.out, hc0]; rfl)
        clear hc0
        generalize p.bits = x at *
        generalize q.bits = y at *
        rcases Int.lt_trichotomy x y with h | h | h
        · rw [if_pos h] at HH
          go_wp2
          try rw [Exit.noGoto_ret]
          go_ret
          exact ⟨by rw [HH.out]; rfl, KR.out⟩
        · rw [if_neg (by omega), if_neg (by omega)] at HH
          have h1 : ¬ x < y := by omega
          have h2 : ¬ y < x := by omega
          go_wp2
          try rw [Exit.noGoto_ret]
          go_ret
          exact ⟨by rw [HH.out]; rfl, KR.out⟩
        · rw [if_neg (by omega), if_pos h] at HH
          have h1 : ¬ x < y := by omega
          go_wp2
          try rw [Exit.noGoto_ret]
          go_ret
          exact ⟨by rw [HH.out]; rfl, KR.out⟩
end
end Go.Proofs.YtgcdhfpbmcfedaaGreatDoor.pf
end
section
set_option linter.unusedVariables false
set_option linter.unusedSimpArgs false
namespace Go.Proofs.YtgcdhfpbmcfedaaGreatDoor.pf
open Go.RowKit Go.Proofs.YtgcdhfpbmcfedaaGreatDoor.oc Go.Proofs.YtgcdhfpbmcfedaaGreatDoor.mz Go.Proofs.YtgcdhfpbmcfedaaGreatDoor.wh
def zeroP : Px := ⟨⟨false, List.replicate 16 0⟩, 0⟩
theorem zeroP_cells : pxc zeroP = [.bool false, .int .u8 0, .int .u8 0, .int .u8 0, .int .u8 0, .int .u8 0, .int .u8 0, .int .u8 0, .int .u8 0, .int .u8 0, .int .u8 0, .int .u8 0, .int .u8 0, .int .u8 0, .int .u8 0, .int .u8 0, .int .u8 0, .int .i64 0] := rfl
theorem zero_one : ∀ v ∈ ([.bool false, .int .u8 0, .int .u8 0, .int .u8 0, .int .u8 0, .int .u8 0, .int .u8 0, .int .u8 0, .int .u8 0, .int .u8 0, .int .u8 0, .int .u8 0, .int .u8 0, .int .u8 0, .int .u8 0, .int .u8 0, .int .u8 0, .int .i64 0] : List Value), v.oneCell' = true := by
  intro v hv
  simp only [List.mem_cons, List.not_mem_nil, or_false] at hv
  rcases hv with rfl | rfl | rfl | rfl | rfl | rfl | rfl | rfl | rfl | rfl | rfl | rfl | rfl | rfl | rfl | rfl | rfl | rfl <;> rfl
/-- what is stored over a block whole, and what else lies there -/
theorem over_all {w : World} {Q : Nat} {T : TypeId} {cs vs : List Value} (h : Blk w Q T cs) (hl : vs.length = cs.length) : w.there Q 0 vs.toArray.size ∧ Blk (w.setCells Q 0 vs) Q T vs ∧ Keeps (· = Q) w (w.setCells Q 0 vs) := by
  have ht := wh.Blk.thereAll h
  rw [← hl] at ht
  exact ⟨by rw [List.size_toArray]; exact ht, wh.Blk.setAll h vs hl, wh.keeps_setCells Q vs w 0⟩
theorem sixteen {l : List Nat} (h : l.length = 16) : ∃ q0 q1 q2 q3 q4 q5 q6 q7 q8 q9 q10 q11 q12 q13 q14 q15 : Nat, l = [q0, q1, q2, q3, q4, q5, q6, q7, q8, q9, q10, q11, q12, q13, q14, q15] := by
  match l, h with
  | [q0, q1, q2, q3, q4, q5, q6, q7, q8, q9, q10, q11, q12, q13, q14, q15], _ => exact ⟨q0, q1, q2, q3, q4, q5, q6, q7, q8, q9, q10, q11, q12, q13, q14, q15, rfl⟩
theorem px_one (p : Px) : ∀ v ∈ pxc p, v.oneCell' = true := fun v hv => by
  rcases List.mem_append.1 hv with q | q
  · exact ad_one _ v q
  · simp at q; subst q; rfl
section
variable (w : World)

set_option maxRecDepth 100000 in
set_option maxHeartbeats 4000000 in
theorem of_addr (a : Ad) (bits : Int) (ha : a.Wf) (ho : ¬ okA a) : Calls Tryz.prog 26 #[av a, .int .i64 bits] w fun e w' => e = .returned (.tuple #[pv zeroP, .int .i64 150]) ∧ ∀ S, Keeps S w w' := by
  have HCA := fun w => Lib.hid (checkaddr_ a w ha)
  have HWD := fun w => Lib.hid (width_ a w)
  have HSA := Lib.hid (show (Tryz.prog.info? 24).map (·.size) = some (adc a).length from by rw [adc_len ha]; exact addr_info)
  have HSZ := Lib.hid (show (Tryz.prog.info? 28).map (·.size) = some ([.bool false, .int .u8 0, .int .u8 0, .int .u8 0, .int .u8 0, .int .u8 0, .int .u8 0, .int .u8 0, .int .u8 0, .int .u8 0, .int .u8 0, .int .u8 0, .int .u8 0, .int .u8 0, .int .u8 0, .int .u8 0, .int .u8 0, .int .i64 0] : List Value).toArray.size from prefix_info)
  have HSZ2 := Lib.hid (show (Tryz.prog.info? 28).map (·.size) = some ([.bool false, .int .u8 0, .int .u8 0, .int .u8 0, .int .u8 0, .int .u8 0, .int .u8 0, .int .u8 0, .int .u8 0, .int .u8 0, .int .u8 0, .int .u8 0, .int .u8 0, .int .u8 0, .int .u8 0, .int .u8 0, .int .u8 0, .int .i64 0] : List Value).length from prefix_info)
  have HZO := Lib.hid (all_oneCell_toArray zero_one)
  obtain ⟨w1, hw1, k1, bP, bQ⟩ := box_two w (adc a) [.bool false, .int .u8 0, .int .u8 0, .int .u8 0, .int .u8 0, .int .u8 0, .int .u8 0, .int .u8 0, .int .u8 0, .int .u8 0, .int .u8 0, .int .u8 0, .int .u8 0, .int .u8 0, .int .u8 0, .int .u8 0, .int .u8 0, .int .i64 0] 24 28
  have HL1 := Lib.hid (wh.Blk.range bP)
  have HW : Hid (w1 = (w.alloc (.cells (adc a).toArray 24)).alloc (.cells #[.bool false, .int .u8 0, .int .u8 0, .int .u8 0, .int .u8 0, .int .u8 0, .int .u8 0, .int .u8 0, .int .u8 0, .int .u8 0, .int .u8 0, .int .u8 0, .int .u8 0, .int .u8 0, .int .u8 0, .int .u8 0, .int .u8 0, .int .i64 0] 28)) := Lib.hid hw1
  have K1 : Hid (∀ S, Keeps S w w1) := Lib.hid k1
  have BP := Lib.hid bP
  have BQ := Lib.hid bQ
  rw [errA_no ho] at HCA
  clear ho ha
  unfold av at HCA HWD
  unfold av
  clear hw1 k1 bP bQ
  go_enter Tryz.func26, Tryz.ntmps26
  go_wp2_with (first | (rw [← HW.out]; refine wpList_load_mid rfl 24 _ rfl w.heap.size 0 rfl (adc a) _ HL1.out Tryz.underlying24 rfl HSA.out ?_))
  refine (HCA _).out.mono ?_
  rintro e w2 ⟨rfl, k2⟩
  have K2 : Hid (∀ S, Keeps S w w2) := Lib.hid (fun S => (K1.out S).trans (k2 S))
  have BP2 := Lib.hid (Blk.keeps BP.out (k2 (fun _ => False)) (fun z => z))
  have BQ2 := Lib.hid (Blk.keeps BQ.out (k2 (fun _ => False)) (fun z => z))
  have HL2 := Lib.hid (wh.Blk.range BP2.out)
  clear k2
  obtain ⟨t0, b9, k9⟩ := over_all (vs := [.bool false, .int .u8 0, .int .u8 0, .int .u8 0, .int .u8 0, .int .u8 0, .int .u8 0, .int .u8 0, .int .u8 0, .int .u8 0, .int .u8 0, .int .u8 0, .int .u8 0, .int .u8 0, .int .u8 0, .int .u8 0, .int .u8 0, .int .i64 0]) BQ2.out rfl
  have HT := Lib.hid t0
  have B9 := Lib.hid b9
  have K9 := Lib.hid k9
  clear t0 b9 k9
  go_wp2_with (refine wpList_store_mid rfl 28 _ _ rfl (w.heap.size + 1) 0 ([.bool false, .int .u8 0, .int .u8 0, .int .u8 0, .int .u8 0, .int .u8 0, .int .u8 0, .int .u8 0, .int .u8 0, .int .u8 0, .int .u8 0, .int .u8 0, .int .u8 0, .int .u8 0, .int .u8 0, .int .u8 0, .int .u8 0, .int .i64 0] : List Value).toArray rfl rfl HT.out HSZ.out HZO.out ?_)
  try rw [Exit.noGoto_ret]
  refine bodyPost_ret (wh.ret_cell (p := 4) (u := 5) (ty := 28) (by kernel_rfl) _ _ _ (w.heap.size + 1) _ _ _ (by rfl) B9.out Tryz.underlying28 rfl HSZ2.out) rfl ?_
  refine ⟨rfl, fun S => ?_⟩
  have kk := K2.out S
  have k9 := K9.out
  exact ⟨Nat.le_trans kk.size k9.size, fun x hx hs => by rw [k9.block x (Nat.lt_of_lt_of_le hx kk.size) (by omega), kk.block x hx hs], kk.same.trans k9.same⟩
set_option maxRecDepth 100000 in
set_option maxHeartbeats 4000000 in
theorem of_neg (a : Ad) (bits : Int) (ha : a.Wf) (ho : okA a) (hb : bits < 0) : Calls Tryz.prog 26 #[av a, .int .i64 bits] w fun e w' => e = .returned (.tuple #[pv zeroP, .int .i64 151]) ∧ ∀ S, Keeps S w w' := by
  have HCA := fun w => Lib.hid (checkaddr_ a w ha)
  have HWD := fun w => Lib.hid (width_ a w)
  have HSA := Lib.hid (show (Tryz.prog.info? 24).map (·.size) = some (adc a).length from by rw [adc_len ha]; exact addr_info)
  have HSZ := Lib.hid (show (Tryz.prog.info? 28).map (·.size) = some ([.bool false, .int .u8 0, .int .u8 0, .int .u8 0, .int .u8 0, .int .u8 0, .int .u8 0, .int .u8 0, .int .u8 0, .int .u8 0, .int .u8 0, .int .u8 0, .int .u8 0, .int .u8 0, .int .u8 0, .int .u8 0, .int .u8 0, .int .i64 0] : List Value).toArray.size from prefix_info)
  have HSZ2 := Lib.hid (show (Tryz.prog.info? 28).map (·.size) = some ([.bool false, .int .u8 0, .int .u8 0, .int .u8 0, .int .u8 0, .int .u8 0, .int .u8 0, .int .u8 0, .int .u8 0, .int .u8 0, .int .u8 0, .int .u8 0, .int .u8 0, .int .u8 0, .int .u8 0, .int .u8 0, .int .u8 0, .int .i64 0] : List Value).length from prefix_info)
  have HZO := Lib.hid (all_oneCell_toArray zero_one)
  obtain ⟨w1, hw1, k1, bP, bQ⟩ := box_two w (adc a) [.bool false, .int .u8 0, .int .u8 0, .int .u8 0, .int .u8 0, .int .u8 0, .int .u8 0, .int .u8 0, .int .u8 0, .int .u8 0, .int .u8 0, .int .u8 0, .int .u8 0, .int .u8 0, .int .u8 0, .int .u8 0, .int .u8 0, .int .i64 0] 24 28
  have HL1 := Lib.hid (wh.Blk.range bP)
  have HW : Hid (w1 = (w.alloc (.cells (adc a).toArray 24)).alloc (.cells #[.bool false, .int .u8 0, .int .u8 0, .int .u8 0, .int .u8 0, .int .u8 0, .int .u8 0, .int .u8 0, .int .u8 0, .int .u8 0, .int .u8 0, .int .u8 0, .int .u8 0, .int .u8 0, .int .u8 0, .int .u8 0, .int .u8 0, .int .i64 0] 28)) := Lib.hid hw1
  have K1 : Hid (∀ S, Keeps S w w1) := Lib.hid k1
  have BP := Lib.hid bP
  have BQ := Lib.hid bQ
  rw [errA_ok ho] at HCA
  clear ho ha
  unfold av at HCA HWD
  unfold av
  clear hw1 k1 bP bQ
  go_enter Tryz.func26, Tryz.ntmps26
  go_wp2_with (first | (rw [← HW.out]; refine wpList_load_mid rfl 24 _ rfl w.heap.size 0 rfl (adc a) _ HL1.out Tryz.underlying24 rfl HSA.out ?_))
  refine (HCA _).out.mono ?_
  rintro e w2 ⟨rfl, k2⟩
  have K2 : Hid (∀ S, Keeps S w w2) := Lib.hid (fun S => (K1.out S).trans (k2 S))
  have BP2 := Lib.hid (Blk.keeps BP.out (k2 (fun _ => False)) (fun z => z))
  have BQ2 := Lib.hid (Blk.keeps BQ.out (k2 (fun _ => False)) (fun z => z))
  have HL2 := Lib.hid (wh.Blk.range BP2.out)
  clear k2
  obtain ⟨t0, b9, k9⟩ := over_all (vs := [.bool false, .int .u8 0, .int .u8 0, .int .u8 0, .int .u8 0, .int .u8 0, .int .u8 0, .int .u8 0, .int .u8 0, .int .u8 0, .int .u8 0, .int .u8 0, .int .u8 0, .int .u8 0, .int .u8 0, .int .u8 0, .int .u8 0, .int .i64 0]) BQ2.out rfl
  have HT := Lib.hid t0
  have B9 := Lib.hid b9
  have K9 := Lib.hid k9
  clear t0 b9 k9
  go_wp2_with (refine wpList_store_mid rfl 28 _ _ rfl (w.heap.size + 1) 0 ([.bool false, .int .u8 0, .int .u8 0, .int .u8 0, .int .u8 0, .int .u8 0, .int .u8 0, .int .u8 0, .int .u8 0, .int .u8 0, .int .u8 0, .int .u8 0, .int .u8 0, .int .u8 0, .int .u8 0, .int .u8 0, .int .u8 0, .int .i64 0] : List Value).toArray rfl rfl HT.out HSZ.out HZO.out ?_)
  try rw [Exit.noGoto_ret]
  refine bodyPost_ret (wh.ret_cell (p := 4) (u := 5) (ty := 28) (by kernel_rfl) _ _ _ (w.heap.size + 1) _ _ _ (by rfl) B9.out Tryz.underlying28 rfl HSZ2.out) rfl ?_
  refine ⟨rfl, fun S => ?_⟩
  have kk := K2.out S
  have k9 := K9.out
  exact ⟨Nat.le_trans kk.size k9.size, fun x hx hs => by rw [k9.block x (Nat.lt_of_lt_of_le hx kk.size) (by omega), kk.block x hx hs], kk.same.trans k9.same⟩
set_option maxRecDepth 100000 in
set_option maxHeartbeats 4000000 in
theorem of_over (a : Ad) (bits : Int) (ha : a.Wf) (ho : okA a) (hb : ¬ bits < 0) (hc : (wid a : Int) < bits) : Calls Tryz.prog 26 #[av a, .int .i64 bits] w fun e w' => e = .returned (.tuple #[pv zeroP, .int .i64 151]) ∧ ∀ S, Keeps S w w' := by
  have HCA := fun w => Lib.hid (checkaddr_ a w ha)
  have HWD := fun w => Lib.hid (width_ a w)
  have HSA := Lib.hid (show (Tryz.prog.info? 24).map (·.size) = some (adc a).length from by rw [adc_len ha]; exact addr_info)
  have HSZ := Lib.hid (show (Tryz.prog.info? 28).map (·.size) = some ([.bool false, .int .u8 0, .int .u8 0, .int .u8 0, .int .u8 0, .int .u8 0, .int .u8 0, .int .u8 0, .int .u8 0, .int .u8 0, .int .u8 0, .int .u8 0, .int .u8 0, .int .u8 0, .int .u8 0, .int .u8 0, .int .u8 0, .int .i64 0] : List Value).toArray.size from prefix_info)
  have HSZ2 := Lib.hid (show (Tryz.prog.info? 28).map (·.size) = some ([.bool false, .int .u8 0, .int .u8 0, .int .u8 0, .int .u8 0, .int .u8 0, .int .u8 0, .int .u8 0, .int .u8 0, .int .u8 0, .int .u8 0, .int .u8 0, .int .u8 0, .int .u8 0, .int .u8 0, .int .u8 0, .int .u8 0, .int .i64 0] : List Value).length from prefix_info)
  have HZO := Lib.hid (all_oneCell_toArray zero_one)
  obtain ⟨w1, hw1, k1, bP, bQ⟩ := box_two w (adc a) [.bool false, .int .u8 0, .int .u8 0, .int .u8 0, .int .u8 0, .int .u8 0, .int .u8 0, .int .u8 0, .int .u8 0, .int .u8 0, .int .u8 0, .int .u8 0, .int .u8 0, .int .u8 0, .int .u8 0, .int .u8 0, .int .u8 0, .int .i64 0] 24 28
  have HL1 := Lib.hid (wh.Blk.range bP)
  have HW : Hid (w1 = (w.alloc (.cells (adc a).toArray 24)).alloc (.cells #[.bool false, .int .u8 0, .int .u8 0, .int .u8 0, .int .u8 0, .int .u8 0, .int .u8 0, .int .u8 0, .int .u8 0, .int .u8 0, .int .u8 0, .int .u8 0, .int .u8 0, .int .u8 0, .int .u8 0, .int .u8 0, .int .u8 0, .int .i64 0] 28)) := Lib.hid hw1
  have K1 : Hid (∀ S, Keeps S w w1) := Lib.hid k1
  have BP := Lib.hid bP
  have BQ := Lib.hid bQ
  rw [errA_ok ho] at HCA
  generalize wid a = W at *
  have hbd : decide (bits < 0) = false := decide_eq_false hb
  clear ho ha
  unfold av at HCA HWD
  unfold av
  clear hw1 k1 bP bQ
  go_enter Tryz.func26, Tryz.ntmps26
  go_wp2_with (first | (rw [← HW.out]; refine wpList_load_mid rfl 24 _ rfl w.heap.size 0 rfl (adc a) _ HL1.out Tryz.underlying24 rfl HSA.out ?_))
  refine (HCA _).out.mono ?_
  rintro e w2 ⟨rfl, k2⟩
  have K2 : Hid (∀ S, Keeps S w w2) := Lib.hid (fun S => (K1.out S).trans (k2 S))
  have BP2 := Lib.hid (Blk.keeps BP.out (k2 (fun _ => False)) (fun z => z))
  have BQ2 := Lib.hid (Blk.keeps BQ.out (k2 (fun _ => False)) (fun z => z))
  have HL2 := Lib.hid (wh.Blk.range BP2.out)
  clear k2
  go_wp2_with (refine wpList_load_want (by kernel_rfl) 24 _ rfl w.heap.size 0 rfl (adc a) _ HL2.out Tryz.underlying24 rfl HSA.out ?_)
  refine (HWD _).out.mono ?_
  rintro e w3 ⟨rfl, k3⟩
  have K3 : Hid (∀ S, Keeps S w w3) := Lib.hid (fun S => (K2.out S).trans (k3 S))
  have BQ3 := Lib.hid (Blk.keeps BQ2.out (k3 (fun _ => False)) (fun z => z))
  clear k3
  obtain ⟨t0, b9, k9⟩ := over_all (vs := [.bool false, .int .u8 0, .int .u8 0, .int .u8 0, .int .u8 0, .int .u8 0, .int .u8 0, .int .u8 0, .int .u8 0, .int .u8 0, .int .u8 0, .int .u8 0, .int .u8 0, .int .u8 0, .int .u8 0, .int .u8 0, .int .u8 0, .int .i64 0]) BQ3.out rfl
  have HT := Lib.hid t0
  have B9 := Lib.hid b9
  have K9 := Lib.hid k9
  clear t0 b9 k9
  go_wp2_with (refine wpList_store_mid rfl 28 _ _ rfl (w.heap.size + 1) 0 ([.bool false, .int .u8 0, .int .u8 0, .int .u8 0, .int .u8 0, .int .u8 0, .int .u8 0, .int .u8 0, .int .u8 0, .int .u8 0, .int .u8 0, .int .u8 0, .int .u8 0, .int .u8 0, .int .u8 0, .int .u8 0, .int .u8 0, .int .i64 0] : List Value).toArray rfl rfl HT.out HSZ.out HZO.out ?_)
  try rw [Exit.noGoto_ret]
  refine bodyPost_ret (wh.ret_cell (p := 4) (u := 5) (ty := 28) (by kernel_rfl) _ _ _ (w.heap.size + 1) _ _ _ (by rfl) B9.out Tryz.underlying28 rfl HSZ2.out) rfl ?_
  refine ⟨rfl, fun S => ?_⟩
  have kk := K3.out S
  have k9 := K9.out
  exact ⟨Nat.le_trans kk.size k9.size, fun x hx hs => by rw [k9.block x (Nat.lt_of_lt_of_le hx kk.size) (by omega), kk.block x hx hs], kk.same.trans k9.same⟩
set_option maxRecDepth 100000 in
set_option maxHeartbeats 4000000 in
theorem of_in (a : Ad) (bits : Int) (ha : a.Wf) (m : Nat) (hbm : bits = (m : Int)) (ho : okA a) (hm : m ≤ wid a) : Calls Tryz.prog 26 #[av a, .int .i64 bits] w fun e w' => e = .returned (.tuple #[pv (ofP a m), .int .i64 0]) ∧ ∀ S, Keeps S w w' := by
  have HCA := fun w => Lib.hid (checkaddr_ a w ha)
  have HWD := fun w => Lib.hid (width_ a w)
  have HSA := Lib.hid (show (Tryz.prog.info? 24).map (·.size) = some (adc a).length from by rw [adc_len ha]; exact addr_info)
  have HSZ := Lib.hid (show (Tryz.prog.info? 28).map (·.size) = some ([.bool false, .int .u8 0, .int .u8 0, .int .u8 0, .int .u8 0, .int .u8 0, .int .u8 0, .int .u8 0, .int .u8 0, .int .u8 0, .int .u8 0, .int .u8 0, .int .u8 0, .int .u8 0, .int .u8 0, .int .u8 0, .int .u8 0, .int .i64 0] : List Value).toArray.size from prefix_info)
  have HSZ2 := Lib.hid (show (Tryz.prog.info? 28).map (·.size) = some ([.bool false, .int .u8 0, .int .u8 0, .int .u8 0, .int .u8 0, .int .u8 0, .int .u8 0, .int .u8 0, .int .u8 0, .int .u8 0, .int .u8 0, .int .u8 0, .int .u8 0, .int .u8 0, .int .u8 0, .int .u8 0, .int .u8 0, .int .i64 0] : List Value).length from prefix_info)
  have HZO := Lib.hid (all_oneCell_toArray zero_one)
  obtain ⟨w1, hw1, k1, bP, bQ⟩ := box_two w (adc a) [.bool false, .int .u8 0, .int .u8 0, .int .u8 0, .int .u8 0, .int .u8 0, .int .u8 0, .int .u8 0, .int .u8 0, .int .u8 0, .int .u8 0, .int .u8 0, .int .u8 0, .int .u8 0, .int .u8 0, .int .u8 0, .int .u8 0, .int .i64 0] 24 28
  have HL1 := Lib.hid (wh.Blk.range bP)
  have HW : Hid (w1 = (w.alloc (.cells (adc a).toArray 24)).alloc (.cells #[.bool false, .int .u8 0, .int .u8 0, .int .u8 0, .int .u8 0, .int .u8 0, .int .u8 0, .int .u8 0, .int .u8 0, .int .u8 0, .int .u8 0, .int .u8 0, .int .u8 0, .int .u8 0, .int .u8 0, .int .u8 0, .int .u8 0, .int .i64 0] 28)) := Lib.hid hw1
  have K1 : Hid (∀ S, Keeps S w w1) := Lib.hid k1
  have BP := Lib.hid bP
  have BQ := Lib.hid bQ
  rw [errA_ok ho] at HCA
  have HA := Lib.hid (show a.Wf ∧ okA a ∧ m ≤ wid a ∧ wid a ≤ 128 from ⟨ha, ho, hm, (wid_le a).1⟩)
  subst hbm
  have hb0 : ¬ (m : Int) < 0 := by omega
  have hbd : decide ((m : Int) < 0) = false := decide_eq_false hb0
  have hcn : ¬ wid a < m := by omega
  have m1 : (m : Int) ≤ 128 := by have := (wid_le a).1; omega
  clear ho ha hm
  unfold av at HCA HWD
  unfold av
  clear hw1 k1 bP bQ
  go_enter Tryz.func26, Tryz.ntmps26
  go_wp2_with (first | (rw [← HW.out]; refine wpList_load_mid rfl 24 _ rfl w.heap.size 0 rfl (adc a) _ HL1.out Tryz.underlying24 rfl HSA.out ?_))
  refine (HCA _).out.mono ?_
  rintro e w2 ⟨rfl, k2⟩
  have K2 : Hid (∀ S, Keeps S w w2) := Lib.hid (fun S => (K1.out S).trans (k2 S))
  have BP2 := Lib.hid (Blk.keeps BP.out (k2 (fun _ => False)) (fun z => z))
  have BQ2 := Lib.hid (Blk.keeps BQ.out (k2 (fun _ => False)) (fun z => z))
  have HL2 := Lib.hid (wh.Blk.range BP2.out)
  clear k2
  go_wp2_with (refine wpList_load_want (by kernel_rfl) 24 _ rfl w.heap.size 0 rfl (adc a) _ HL2.out Tryz.underlying24 rfl HSA.out ?_)
  refine (HWD _).out.mono ?_
  rintro e w3 ⟨rfl, k3⟩
  have K3 : Hid (∀ S, Keeps S w w3) := Lib.hid (fun S => (K2.out S).trans (k3 S))
  have BP3 := Lib.hid (Blk.keeps BP2.out (k3 (fun _ => False)) (fun z => z))
  have BQ3 := Lib.hid (Blk.keeps BQ2.out (k3 (fun _ => False)) (fun z => z))
  clear k3 HL1 HL2 HCA HWD K1 K2 BP BQ BP2 BQ2
  go_wp2_with fail
  go_loopw [6] (fun i wr => ∃ (k : Nat) (b : Ad), m ≤ k ∧ k ≤ wid a ∧ i = .int .i64 (k : Int) ∧ Blk wr w.heap.size 24 (adc b) ∧ Blk wr (w.heap.size + 1) 28 [.bool false, .int .u8 0, .int .u8 0, .int .u8 0, .int .u8 0, .int .u8 0, .int .u8 0, .int .u8 0, .int .u8 0, .int .u8 0, .int .u8 0, .int .u8 0, .int .u8 0, .int .u8 0, .int .u8 0, .int .u8 0, .int .u8 0, .int .i64 0] ∧ (∀ S, Keeps S w wr) ∧ b.Wf ∧ b.v6 = a.v6 ∧ ∀ j, j < 128 → bit b j = if m ≤ j ∧ j < k then false else bit a j) (fun i _ => 200 - (intOf i).toNat)
  case atStart => exact ⟨m, a, Nat.le_refl _, HA.out.2.2.1, rfl, BP3.out, BQ3.out, K3.out, HA.out.1, rfl, fun j hj => by rw [if_neg (by omega)]⟩
  case round =>
    obtain ⟨k, b, h1, h2, rfl, bp, bq, kr, hbw, hbv, hbb⟩ := hrel
    have k0 : (0 : Int) ≤ (k : Int) := by omega
    have k1 : (k : Int) ≤ 128 := by have := HA.out; omega
    have BPr := Lib.hid bp
    have BQr := Lib.hid bq
    have KR : Hid (∀ S, Keeps S w wr) := Lib.hid kr
    have HB := Lib.hid (show b.Wf ∧ b.v6 = a.v6 ∧ ∀ j, j < 128 → bit b j = if m ≤ j ∧ j < k then false else bit a j from ⟨hbw, hbv, hbb⟩)
    have HLr := Lib.hid (wh.Blk.range bp)
    have HSB := Lib.hid (show (Tryz.prog.info? 24).map (·.size) = some (adc b).length from by rw [adc_len hbw]; exact addr_info)
    have HWB := fun w => Lib.hid (width_ b w)
    rw [wid_of hbv] at HWB
    unfold av at HWB
    clear bp bq kr hbw hbv hbb
    go_wp2_with (refine wpList_load_mid rfl 24 _ rfl w.heap.size 0 rfl (adc b) _ HLr.out Tryz.underlying24 rfl HSB.out ?_)
    refine (HWB _).out.mono ?_
    rintro e w4 ⟨rfl, k4⟩
    have K4 : Hid (∀ S, Keeps S w w4) := Lib.hid (fun S => (KR.out S).trans (k4 S))
    have BP4 := Lib.hid (Blk.keeps BPr.out (k4 (fun _ => False)) (fun z => z))
    have BQ4 := Lib.hid (Blk.keeps BQr.out (k4 (fun _ => False)) (fun z => z))
    have HL4 := Lib.hid (wh.Blk.range BP4.out)
    clear k4 HLr
    by_cases hlt : k < wid a
    · have hlt' : (k : Int) < (wid a : Int) := by omega
      have HWT := fun w => Lib.hid (with_ b w k false HB.out.1 (by have := HA.out; omega))
      unfold av at HWT
      have hpw := put_wf HB.out.1 k (by have := HA.out; omega) false
      have HSC := Lib.hid (show (Tryz.prog.info? 24).map (·.size) = some (adc (put b k false)).toArray.size from by rw [List.size_toArray, adc_len hpw]; exact addr_info)
      have HOC := Lib.hid (all_oneCell_toArray (ad_one (put b k false)))
      have HNX := Lib.hid (show (put b k false).Wf ∧ (put b k false).v6 = a.v6 ∧ ∀ j, j < 128 → bit (put b k false) j = if m ≤ j ∧ j < k + 1 then false else bit a j from ⟨hpw, HB.out.2.1, fun j hj => by
        rw [put_bit HB.out.1 k (by have := HA.out; omega) false j hj, HB.out.2.2 j hj]
        by_cases e : j = k
        · rw [if_pos e, if_pos (by omega)]
        · rw [if_neg e]
          by_cases c : m ≤ j ∧ j < k
          · rw [if_pos c, if_pos (by omega)]
          · rw [if_neg c, if_neg (by omega)]⟩)
      have hlen : (adc (put b k false)).length = (adc b).length := by rw [adc_len hpw, adc_len HB.out.1]
      clear hpw
      generalize hb2 : put b k false = b2 at *
      go_wp2_with (refine wpList_load_mid rfl 24 _ rfl w.heap.size 0 rfl (adc b) _ HL4.out Tryz.underlying24 rfl HSB.out ?_)
      refine (HWT _).out.mono ?_
      rintro e w5 ⟨rfl, k5⟩
      obtain ⟨t5, b5, k6⟩ := over_all (vs := adc b2) (Blk.keeps BP4.out (k5 (fun _ => False)) (fun z => z)) hlen
      have BQ5 := Lib.hid (Blk.keeps (Blk.keeps BQ4.out (k5 (fun _ => False)) (fun z => z)) k6 (by omega))
      have HT5 := Lib.hid t5
      have BP5 := Lib.hid b5
      have K5 : Hid (∀ S, Keeps S w (w5.setCells w.heap.size 0 (adc b2))) := Lib.hid (fun S => by
        have kk := (K4.out S).trans (k5 S)
        exact ⟨Nat.le_trans kk.size k6.size, fun x hx hs => by rw [k6.block x (Nat.lt_of_lt_of_le hx kk.size) (by omega), kk.block x hx hs], kk.same.trans k6.same⟩)
      clear k5 t5 b5 k6 hlen
      go_wp2_with (refine wpList_store_mid rfl 24 _ _ rfl w.heap.size 0 (adc b2).toArray rfl rfl HT5.out HSC.out HOC.out ?_)
      go_roundw
      case rel => exact ⟨k + 1, b2, by omega, by omega, by go_num, BP5.out, BQ5.out, K5.out, HNX.out.1, HNX.out.2.1, HNX.out.2.2⟩
      case measure => simp [intOf]; omega
    · have hlt' : ¬ (k : Int) < (wid a : Int) := by omega
      obtain ⟨q0, q1, q2, q3, q4, q5, q6, q7, q8, q9, q10, q11, q12, q13, q14, q15, hq⟩ := sixteen HB.out.1.len
      obtain ⟨v, Bl⟩ := b
      simp only at hq
      subst hq
      have HLq : Hid (w4.rangeAt w.heap.size 0 [.bool v, .int .u8 (q0 : Int), .int .u8 (q1 : Int), .int .u8 (q2 : Int), .int .u8 (q3 : Int), .int .u8 (q4 : Int), .int .u8 (q5 : Int), .int .u8 (q6 : Int), .int .u8 (q7 : Int), .int .u8 (q8 : Int), .int .u8 (q9 : Int), .int .u8 (q10 : Int), .int .u8 (q11 : Int), .int .u8 (q12 : Int), .int .u8 (q13 : Int), .int .u8 (q14 : Int), .int .u8 (q15 : Int)]) := Lib.hid HL4.out
      have HSq : Hid ((Tryz.prog.info? 24).map (·.size) = some ([.bool v, .int .u8 (q0 : Int), .int .u8 (q1 : Int), .int .u8 (q2 : Int), .int .u8 (q3 : Int), .int .u8 (q4 : Int), .int .u8 (q5 : Int), .int .u8 (q6 : Int), .int .u8 (q7 : Int), .int .u8 (q8 : Int), .int .u8 (q9 : Int), .int .u8 (q10 : Int), .int .u8 (q11 : Int), .int .u8 (q12 : Int), .int .u8 (q13 : Int), .int .u8 (q14 : Int), .int .u8 (q15 : Int)] : List Value).length) := Lib.hid addr_info
      have HSF : Hid ((Tryz.prog.info? 28).map (·.size) = some ([.bool v, .int .u8 (q0 : Int), .int .u8 (q1 : Int), .int .u8 (q2 : Int), .int .u8 (q3 : Int), .int .u8 (q4 : Int), .int .u8 (q5 : Int), .int .u8 (q6 : Int), .int .u8 (q7 : Int), .int .u8 (q8 : Int), .int .u8 (q9 : Int), .int .u8 (q10 : Int), .int .u8 (q11 : Int), .int .u8 (q12 : Int), .int .u8 (q13 : Int), .int .u8 (q14 : Int), .int .u8 (q15 : Int), .int .i64 (m : Int)] : List Value).toArray.size) := Lib.hid prefix_info
      have HSF2 : Hid ((Tryz.prog.info? 28).map (·.size) = some ([.bool v, .int .u8 (q0 : Int), .int .u8 (q1 : Int), .int .u8 (q2 : Int), .int .u8 (q3 : Int), .int .u8 (q4 : Int), .int .u8 (q5 : Int), .int .u8 (q6 : Int), .int .u8 (q7 : Int), .int .u8 (q8 : Int), .int .u8 (q9 : Int), .int .u8 (q10 : Int), .int .u8 (q11 : Int), .int .u8 (q12 : Int), .int .u8 (q13 : Int), .int .u8 (q14 : Int), .int .u8 (q15 : Int), .int .i64 (m : Int)] : List Value).length) := Lib.hid prefix_info
      have HOF : Hid ((([.bool v, .int .u8 (q0 : Int), .int .u8 (q1 : Int), .int .u8 (q2 : Int), .int .u8 (q3 : Int), .int .u8 (q4 : Int), .int .u8 (q5 : Int), .int .u8 (q6 : Int), .int .u8 (q7 : Int), .int .u8 (q8 : Int), .int .u8 (q9 : Int), .int .u8 (q10 : Int), .int .u8 (q11 : Int), .int .u8 (q12 : Int), .int .u8 (q13 : Int), .int .u8 (q14 : Int), .int .u8 (q15 : Int), .int .i64 (m : Int)] : List Value).toArray.all (·.oneCell')) = true) := Lib.hid (all_oneCell_toArray (px_one ⟨⟨v, [q0, q1, q2, q3, q4, q5, q6, q7, q8, q9, q10, q11, q12, q13, q14, q15]⟩, (m : Int)⟩))
      have HEQ := Lib.hid (show clr a m = ⟨v, [q0, q1, q2, q3, q4, q5, q6, q7, q8, q9, q10, q11, q12, q13, q14, q15]⟩ from Ad.ext_bit (clr_wf HA.out.1 m) HB.out.1 HB.out.2.1.symm (fun j hj => by
        rw [clr_bit HA.out.1 m j hj, HB.out.2.2 j hj]
        by_cases c : j < m
        · rw [if_neg (by omega), decide_eq_true c]; rfl
        · rw [decide_eq_false c]
          by_cases d : j < k
          · rw [if_pos (by omega)]; rfl
          · rw [if_neg (by omega), (okA_bits HA.out.1).1 HA.out.2.1 j (by omega) hj]; rfl))
      obtain ⟨t0, b9, k9⟩ := over_all (vs := [.bool v, .int .u8 (q0 : Int), .int .u8 (q1 : Int), .int .u8 (q2 : Int), .int .u8 (q3 : Int), .int .u8 (q4 : Int), .int .u8 (q5 : Int), .int .u8 (q6 : Int), .int .u8 (q7 : Int), .int .u8 (q8 : Int), .int .u8 (q9 : Int), .int .u8 (q10 : Int), .int .u8 (q11 : Int), .int .u8 (q12 : Int), .int .u8 (q13 : Int), .int .u8 (q14 : Int), .int .u8 (q15 : Int), .int .i64 (m : Int)]) BQ4.out rfl
      have HT := Lib.hid t0
      have B9 := Lib.hid b9
      have K9 := Lib.hid k9
      clear t0 b9 k9
      go_wp2_with (first | (refine wpList_load_mid rfl 24 _ rfl w.heap.size 0 rfl [.bool v, .int .u8 (q0 : Int), .int .u8 (q1 : Int), .int .u8 (q2 : Int), .int .u8 (q3 : Int), .int .u8 (q4 : Int), .int .u8 (q5 : Int), .int .u8 (q6 : Int), .int .u8 (q7 : Int), .int .u8 (q8 : Int), .int .u8 (q9 : Int), .int .u8 (q10 : Int), .int .u8 (q11 : Int), .int .u8 (q12 : Int), .int .u8 (q13 : Int), .int .u8 (q14 : Int), .int .u8 (q15 : Int)] _ HLq.out Tryz.underlying24 rfl HSq.out ?_) | (refine wpList_store_mid rfl 28 _ _ rfl (w.heap.size + 1) 0 ([.bool v, .int .u8 (q0 : Int), .int .u8 (q1 : Int), .int .u8 (q2 : Int), .int .u8 (q3 : Int), .int .u8 (q4 : Int), .int .u8 (q5 : Int), .int .u8 (q6 : Int), .int .u8 (q7 : Int), .int .u8 (q8 : Int), .int .u8 (q9 : Int), .int .u8 (q10 : Int), .int .u8 (q11 : Int), .int .u8 (q12 : Int), .int .u8 (q13 : Int), .int .u8 (q14 : Int), .int .u8 (q15 : Int), .int .i64 (m : Int)] : List Value).toArray rfl rfl HT.out HSF.out HOF.out ?_))
      try rw [Exit.noGoto_ret]
      refine bodyPost_ret (wh.ret_cell (p := 4) (u := 5) (ty := 28) (by kernel_rfl) _ _ _ (w.heap.size + 1) _ _ _ (by rfl) B9.out Tryz.underlying28 rfl HSF2.out) rfl ?_
      refine ⟨by unfold ofP; rw [HEQ.out]; rfl, fun S => ?_⟩
      have kk := K4.out S
      have k9 := K9.out
      exact ⟨Nat.le_trans kk.size k9.size, fun x hx hs => by rw [k9.block x (Nat.lt_of_lt_of_le hx kk.size) (by omega), kk.block x hx hs], kk.same.trans k9.same⟩
end
end Go.Proofs.YtgcdhfpbmcfedaaGreatDoor.pf
end
section
set_option linter.unusedVariables false
set_option linter.unusedSimpArgs false
namespace Go.Proofs.YtgcdhfpbmcfedaaGreatDoor.pf
open Go.RowKit Go.Proofs.YtgcdhfpbmcfedaaGreatDoor.oc Go.Proofs.YtgcdhfpbmcfedaaGreatDoor.mz Go.Proofs.YtgcdhfpbmcfedaaGreatDoor.wh
/-- the results: two aggregates, each in a block of its own, and a number -/
theorem ret_two {fn : Func} {p q u : Tmp} {ty : TypeId} (h : fn.results = #[.cell p ty, .cell q ty, .tmp u]) (tmps : Array Value) (P : Program) (w : World) (g1 g2 : Nat) (t : TypeId) (c1 c2 : List Value) (d : TypeDesc)
    (hp : tmps.getD p undef = .pointer (some ⟨g1, 0, none⟩)) (hq : tmps.getD q undef = .pointer (some ⟨g2, 0, none⟩)) (b1 : Blk w g1 t c1) (b2 : Blk w g2 t c2) (hu : P.underlying ty = some d) (hd : d.isRow = true) (h1 : (P.info? ty).map (·.size) = some c1.length) (h2 : (P.info? ty).map (·.size) = some c2.length) :
    (results fn tmps).run P w = .ok (.tuple #[.agg c1.toArray, .agg c2.toArray, tmps.getD u undef]) w := by
  have e1 := run_loadVar_mid w g1 0 ty c1 d (wh.Blk.range b1) hu hd h1
  have e2 := run_loadVar_mid w g2 0 ty c2 d (wh.Blk.range b2) hu hd h2
  have hp' : tmps[p]?.getD undef = .pointer (some ⟨g1, 0, none⟩) := by simpa using hp
  have hq' : tmps[q]?.getD undef = .pointer (some ⟨g2, 0, none⟩) := by simpa using hq
  simp [results, h, hp', hq', asAddr, e1, e2]
/-- a boxed prefix, and two blocks of noughts -/
theorem box_three (w : World) (C D : List Value) (T : TypeId) : ∃ w1, w1 = ((w.alloc (.cells C.toArray T)).alloc (.cells D.toArray T)).alloc (.cells D.toArray T) ∧ (∀ K, Keeps K w w1) ∧ Blk w1 w.heap.size T C ∧ Blk w1 (w.heap.size + 1) T D ∧ Blk w1 (w.heap.size + 1 + 1) T D := by
  have b2 := (Blk.new (w.alloc (.cells C.toArray T)) T D.toArray).alloc (.cells D.toArray T)
  rw [World.size_alloc] at b2
  have b3 := Blk.new ((w.alloc (.cells C.toArray T)).alloc (.cells D.toArray T)) T D.toArray
  rw [World.size_alloc, World.size_alloc] at b3
  exact ⟨_, rfl, fun K => (((Keeps.refl K w).alloc _).alloc _).alloc _, ((Blk.new w T C.toArray).alloc _).alloc _, b2, b3⟩
/-- stored over two blocks, one behind the other; a third one stays -/
theorem two_over {w : World} {P Q R : Nat} {T : TypeId} {C0 C1 C2 D1 D2 : List Value} (bp : Blk w P T C0) (bq : Blk w Q T D1) (br : Blk w R T D2) (h1 : C1.length = D1.length) (h2 : C2.length = D2.length) (n1 : P ≠ Q) (n2 : P ≠ R) (n3 : Q ≠ R) :
    w.there Q 0 C1.toArray.size ∧ (w.setCells Q 0 C1).there R 0 C2.toArray.size ∧ Blk ((w.setCells Q 0 C1).setCells R 0 C2) Q T C1 ∧ Blk ((w.setCells Q 0 C1).setCells R 0 C2) R T C2 ∧ Keeps (fun x => x = Q ∨ x = R) w ((w.setCells Q 0 C1).setCells R 0 C2) ∧ Blk (w.setCells Q 0 C1) P T C0 ∧ Blk ((w.setCells Q 0 C1).setCells R 0 C2) P T C0 := by
  obtain ⟨t0, b9, k9⟩ := over_all (vs := C1) bq h1
  have bR9 := Blk.keeps br k9 (fun e => n3 e.symm)
  obtain ⟨t1, b8, k8⟩ := over_all (vs := C2) bR9 h2
  have bP9 := Blk.keeps bp k9 n1
  exact ⟨t0, t1, Blk.keeps b9 k8 n3, b8, (k9.mono (fun x _ e => .inl e)).trans (k8.mono (fun x _ e => .inr e)), bP9, Blk.keeps bP9 k8 n2⟩
section
variable (w : World)

set_option maxRecDepth 100000 in
set_option maxHeartbeats 4000000 in
theorem halves_none (p : Px) (hp : p.a.Wf) (ho : ¬ okP p) : Calls Tryz.prog 31 #[pv p] w fun e w' => e = .returned (.tuple #[pv zeroP, pv zeroP, .int .i64 151]) ∧ ∀ S, Keeps S w w' := by
  have HCP := fun w => Lib.hid (check_ w p hp)
  have HWD := fun w => Lib.hid (width_ p.a w)
  have HSP := Lib.hid (show (Tryz.prog.info? 28).map (·.size) = some (pxc p).length from by rw [pxc_len hp]; exact prefix_info)
  have HSA := Lib.hid (show (Tryz.prog.info? 24).map (·.size) = some (adc p.a).length from by rw [adc_len hp]; exact addr_info)
  have HSZ := Lib.hid (show (Tryz.prog.info? 28).map (·.size) = some ([.bool false, .int .u8 0, .int .u8 0, .int .u8 0, .int .u8 0, .int .u8 0, .int .u8 0, .int .u8 0, .int .u8 0, .int .u8 0, .int .u8 0, .int .u8 0, .int .u8 0, .int .u8 0, .int .u8 0, .int .u8 0, .int .u8 0, .int .i64 0] : List Value).toArray.size from prefix_info)
  have HSZ2 := Lib.hid (show (Tryz.prog.info? 28).map (·.size) = some ([.bool false, .int .u8 0, .int .u8 0, .int .u8 0, .int .u8 0, .int .u8 0, .int .u8 0, .int .u8 0, .int .u8 0, .int .u8 0, .int .u8 0, .int .u8 0, .int .u8 0, .int .u8 0, .int .u8 0, .int .u8 0, .int .u8 0, .int .i64 0] : List Value).length from prefix_info)
  have HZO := Lib.hid (all_oneCell_toArray zero_one)
  have HWF := Lib.hid hp
  obtain ⟨w1, hw1, k1, bP, bQ, bR⟩ := box_three w (pxc p) [.bool false, .int .u8 0, .int .u8 0, .int .u8 0, .int .u8 0, .int .u8 0, .int .u8 0, .int .u8 0, .int .u8 0, .int .u8 0, .int .u8 0, .int .u8 0, .int .u8 0, .int .u8 0, .int .u8 0, .int .u8 0, .int .u8 0, .int .i64 0] 28
  have HL1 := Lib.hid (wh.Blk.range bP)
  have HW : Hid (w1 = ((w.alloc (.cells (pxc p).toArray 28)).alloc (.cells #[.bool false, .int .u8 0, .int .u8 0, .int .u8 0, .int .u8 0, .int .u8 0, .int .u8 0, .int .u8 0, .int .u8 0, .int .u8 0, .int .u8 0, .int .u8 0, .int .u8 0, .int .u8 0, .int .u8 0, .int .u8 0, .int .u8 0, .int .i64 0] 28)).alloc (.cells #[.bool false, .int .u8 0, .int .u8 0, .int .u8 0, .int .u8 0, .int .u8 0, .int .u8 0, .int .u8 0, .int .u8 0, .int .u8 0, .int .u8 0, .int .u8 0, .int .u8 0, .int .u8 0, .int .u8 0, .int .u8 0, .int .u8 0, .int .i64 0] 28)) := Lib.hid hw1
  have K1 : Hid (∀ S, Keeps S w w1) := Lib.hid k1
  have BP := Lib.hid bP
  have BQ := Lib.hid bQ
  have BR := Lib.hid bR
  unfold pv at HCP
  unfold av at HWD
  rw [errP_no ho] at HCP
  clear ho hp
  show Calls Tryz.prog 31 #[.agg (pxc p).toArray] w _
  clear hw1 k1 bP bQ bR
  go_enter Tryz.func31, Tryz.ntmps31
  go_wp2_with (first | (rw [← HW.out]; refine wpList_load_mid rfl 28 _ rfl w.heap.size 0 rfl (pxc p) _ HL1.out Tryz.underlying28 rfl HSP.out ?_))
  refine (HCP _).out.mono ?_
  rintro e w2 ⟨rfl, k2⟩
  have K2 : Hid (∀ S, Keeps S w w2) := Lib.hid (fun S => (K1.out S).trans (k2 S))
  have BP2 := Lib.hid (Blk.keeps BP.out (k2 (fun _ => False)) (fun z => z))
  have BQ2 := Lib.hid (Blk.keeps BQ.out (k2 (fun _ => False)) (fun z => z))
  have BR2 := Lib.hid (Blk.keeps BR.out (k2 (fun _ => False)) (fun z => z))
  clear k2
  generalize hq2 : w.heap.size + 1 + 1 = Q2 at *
  generalize hq1 : w.heap.size + 1 = Q1 at *
  obtain ⟨t0, b9, k9⟩ := over_all (vs := [.bool false, .int .u8 0, .int .u8 0, .int .u8 0, .int .u8 0, .int .u8 0, .int .u8 0, .int .u8 0, .int .u8 0, .int .u8 0, .int .u8 0, .int .u8 0, .int .u8 0, .int .u8 0, .int .u8 0, .int .u8 0, .int .u8 0, .int .i64 0]) BQ2.out rfl
  have bR9 := Blk.keeps BR2.out k9 (by omega)
  obtain ⟨t1, b8, k8⟩ := over_all (vs := [.bool false, .int .u8 0, .int .u8 0, .int .u8 0, .int .u8 0, .int .u8 0, .int .u8 0, .int .u8 0, .int .u8 0, .int .u8 0, .int .u8 0, .int .u8 0, .int .u8 0, .int .u8 0, .int .u8 0, .int .u8 0, .int .u8 0, .int .i64 0]) bR9 rfl
  have HT := Lib.hid (And.intro t0 t1)
  have B9 := Lib.hid (And.intro (Blk.keeps b9 k8 (by omega)) b8)
  have K9 := Lib.hid (k9.mono (S' := fun x => w.heap.size < x) (fun x _ e => by omega) |>.trans (k8.mono (S' := fun x => w.heap.size < x) (fun x _ e => by omega)))
  clear t0 b9 k9 t1 b8 k8 bR9
  go_wp2_with (first | (refine' wpList_store_mid rfl 28 _ _ rfl Q1 0 ([.bool false, .int .u8 0, .int .u8 0, .int .u8 0, .int .u8 0, .int .u8 0, .int .u8 0, .int .u8 0, .int .u8 0, .int .u8 0, .int .u8 0, .int .u8 0, .int .u8 0, .int .u8 0, .int .u8 0, .int .u8 0, .int .u8 0, .int .i64 0] : List Value).toArray ?hx rfl ?ht HSZ.out HZO.out ?_; (case hx => rfl); (case ht => exact HT.out.1)) | (refine' wpList_store_mid rfl 28 _ _ rfl Q2 0 ([.bool false, .int .u8 0, .int .u8 0, .int .u8 0, .int .u8 0, .int .u8 0, .int .u8 0, .int .u8 0, .int .u8 0, .int .u8 0, .int .u8 0, .int .u8 0, .int .u8 0, .int .u8 0, .int .u8 0, .int .u8 0, .int .u8 0, .int .i64 0] : List Value).toArray ?hx rfl ?ht HSZ.out HZO.out ?_; (case hx => rfl); (case ht => exact HT.out.2)))
  try rw [Exit.noGoto_ret]
  refine bodyPost_ret (ret_two (p := 2) (q := 3) (u := 4) (ty := 28) (by kernel_rfl) _ _ _ Q1 Q2 _ _ _ _ (by rfl) (by rfl) B9.out.1 B9.out.2 Tryz.underlying28 rfl HSZ2.out HSZ2.out) rfl ?_
  refine ⟨rfl, fun S => ?_⟩
  have kk := K2.out S
  have k9 := K9.out
  exact ⟨Nat.le_trans kk.size k9.size, fun x hx hs => by rw [k9.block x (Nat.lt_of_lt_of_le hx kk.size) (by omega), kk.block x hx hs], kk.same.trans k9.same⟩
set_option maxRecDepth 100000 in
set_option maxHeartbeats 4000000 in
theorem halves_whole (p : Px) (hp : p.a.Wf) (ho : okP p) (hb : p.bits = (wid p.a : Int)) : Calls Tryz.prog 31 #[pv p] w fun e w' => e = .returned (.tuple #[pv zeroP, pv zeroP, .int .i64 5]) ∧ ∀ S, Keeps S w w' := by
  have HCP := fun w => Lib.hid (check_ w p hp)
  have HWD := fun w => Lib.hid (width_ p.a w)
  have HSP := Lib.hid (show (Tryz.prog.info? 28).map (·.size) = some (pxc p).length from by rw [pxc_len hp]; exact prefix_info)
  have HSA := Lib.hid (show (Tryz.prog.info? 24).map (·.size) = some (adc p.a).length from by rw [adc_len hp]; exact addr_info)
  have HSZ := Lib.hid (show (Tryz.prog.info? 28).map (·.size) = some ([.bool false, .int .u8 0, .int .u8 0, .int .u8 0, .int .u8 0, .int .u8 0, .int .u8 0, .int .u8 0, .int .u8 0, .int .u8 0, .int .u8 0, .int .u8 0, .int .u8 0, .int .u8 0, .int .u8 0, .int .u8 0, .int .u8 0, .int .i64 0] : List Value).toArray.size from prefix_info)
  have HSZ2 := Lib.hid (show (Tryz.prog.info? 28).map (·.size) = some ([.bool false, .int .u8 0, .int .u8 0, .int .u8 0, .int .u8 0, .int .u8 0, .int .u8 0, .int .u8 0, .int .u8 0, .int .u8 0, .int .u8 0, .int .u8 0, .int .u8 0, .int .u8 0, .int .u8 0, .int .u8 0, .int .u8 0, .int .i64 0] : List Value).length from prefix_info)
  have HZO := Lib.hid (all_oneCell_toArray zero_one)
  have HWF := Lib.hid hp
  obtain ⟨w1, hw1, k1, bP, bQ, bR⟩ := box_three w (pxc p) [.bool false, .int .u8 0, .int .u8 0, .int .u8 0, .int .u8 0, .int .u8 0, .int .u8 0, .int .u8 0, .int .u8 0, .int .u8 0, .int .u8 0, .int .u8 0, .int .u8 0, .int .u8 0, .int .u8 0, .int .u8 0, .int .u8 0, .int .i64 0] 28
  have HL1 := Lib.hid (wh.Blk.range bP)
  have HW : Hid (w1 = ((w.alloc (.cells (pxc p).toArray 28)).alloc (.cells #[.bool false, .int .u8 0, .int .u8 0, .int .u8 0, .int .u8 0, .int .u8 0, .int .u8 0, .int .u8 0, .int .u8 0, .int .u8 0, .int .u8 0, .int .u8 0, .int .u8 0, .int .u8 0, .int .u8 0, .int .u8 0, .int .u8 0, .int .i64 0] 28)).alloc (.cells #[.bool false, .int .u8 0, .int .u8 0, .int .u8 0, .int .u8 0, .int .u8 0, .int .u8 0, .int .u8 0, .int .u8 0, .int .u8 0, .int .u8 0, .int .u8 0, .int .u8 0, .int .u8 0, .int .u8 0, .int .u8 0, .int .u8 0, .int .i64 0] 28)) := Lib.hid hw1
  have K1 : Hid (∀ S, Keeps S w w1) := Lib.hid k1
  have BP := Lib.hid bP
  have BQ := Lib.hid bQ
  have BR := Lib.hid bR
  unfold pv at HCP
  unfold av at HWD
  rw [errP_ok ho] at HCP
  obtain ⟨m, hm⟩ : ∃ m : Nat, p.bits = (m : Int) := ⟨p.bits.toNat, by have := ho.2.1.1; omega⟩
  have HKS : ∀ w', Blk w' w.heap.size 28 (pxc p) → w'.rangeAt w.heap.size 0 (adc p.a) ∧ w'.cell? ⟨w.heap.size, 17, none⟩ = some (.int .i64 (m : Int)) := fun w' h => ⟨px_addr HWF.out h, by rw [← hm]; exact px_bits HWF.out h⟩
  have hw : wid p.a = m := by omega
  rw [hw] at HWD
  clear ho hp hb hw hm
  show Calls Tryz.prog 31 #[.agg (pxc p).toArray] w _
  clear hw1 k1 bP bQ bR
  go_enter Tryz.func31, Tryz.ntmps31
  go_wp2_with (first | (rw [← HW.out]; refine wpList_load_mid rfl 28 _ rfl w.heap.size 0 rfl (pxc p) _ HL1.out Tryz.underlying28 rfl HSP.out ?_))
  refine (HCP _).out.mono ?_
  rintro e w2 ⟨rfl, k2⟩
  have K2 : Hid (∀ S, Keeps S w w2) := Lib.hid (fun S => (K1.out S).trans (k2 S))
  have BP2 := Lib.hid (Blk.keeps BP.out (k2 (fun _ => False)) (fun z => z))
  have BQ2 := Lib.hid (Blk.keeps BQ.out (k2 (fun _ => False)) (fun z => z))
  have BR2 := Lib.hid (Blk.keeps BR.out (k2 (fun _ => False)) (fun z => z))
  clear k2
  go_wp2_with fail
  refine wp_region_held_drew (S := fun w' => w'.rangeAt w.heap.size 0 (adc p.a) ∧ w'.cell? ⟨w.heap.size, 17, none⟩ = some (.int .i64 (m : Int))) (by kernel_rfl) (HKS w2.drew BP2.out) (fun hHeld => ?_)
  refine wpAnyH_take (i := 0) (v := ?_) rfl (by kernel_rfl) (by kernel_rfl) (by kernel_rfl) (fun _ _ _ h => h) (Or.inl ⟨by kernel_rfl, ?_⟩) (by assumption) ?_
  rotate_left
  · (intro w hSw; (try dsimp only at hSw); go_simp) <;> (try (with_reducible rfl))
  try simp only [Act.put, Array.getInternal_eq_getElem, List.getElem_toArray, List.getElem_cons_zero, List.getElem_cons_succ, List.setIfInBounds_toArray, List.set_cons_zero, List.set_cons_succ]
  refine wpAnyH_take (i := 1) (v := ?_) rfl (by kernel_rfl) (by kernel_rfl) (by kernel_rfl) (fun _ _ _ h => h) (Or.inl ⟨by kernel_rfl, ?_⟩) (by assumption) ?_
  rotate_left
  · (intro w hSw; (try dsimp only at hSw); go_simp) <;> (try (with_reducible rfl))
  try simp only [Act.put, Array.getInternal_eq_getElem, List.getElem_toArray, List.getElem_cons_zero, List.getElem_cons_succ, List.setIfInBounds_toArray, List.set_cons_zero, List.set_cons_succ]
  refine wpAnyH_take (i := 2) (v := ?_) rfl (by kernel_rfl) (by kernel_rfl) (by kernel_rfl) (fun _ _ _ h => h) (Or.inl ⟨by kernel_rfl, ?_⟩) (by assumption) ?_
  rotate_left
  · (intro w hSw; (try dsimp only at hSw); go_simp) <;> (try (with_reducible rfl))
  try simp only [Act.put, Array.getInternal_eq_getElem, List.getElem_toArray, List.getElem_cons_zero, List.getElem_cons_succ, List.setIfInBounds_toArray, List.set_cons_zero, List.set_cons_succ]
  refine' wpAnyH_take (i := 3) (v := _) rfl (by kernel_rfl) (by kernel_rfl) (by kernel_rfl) (fun _ _ _ h => h) (yieldsIf_load_mid (by kernel_rfl) _ _ rfl _ _ rfl _ _ (fun w hSw => hSw.1) Tryz.underlying24 rfl HSA.out) (by assumption) ?_
  try simp only [Act.put, Array.getInternal_eq_getElem, List.getElem_toArray, List.getElem_cons_zero, List.getElem_cons_succ, List.setIfInBounds_toArray, List.set_cons_zero, List.set_cons_succ]
  refine wpAnyH_ready (rs := [4]) (by kernel_rfl) (by simp) ?_
  refine AllReadyH.cons rfl (fun K hK => ?_) AllReadyH.nil
  (rw [if_pos (by kernel_rfl)]; go_simp; go_at_call 46; refine (HWD _).out.mono ?_; rintro e w3 ⟨rfl, k3⟩; have BP3 := Lib.hid (Blk.keeps BP2.out ((Keeps.refl (fun _ => False) w2).drew.trans (k3 _)) (fun z => z)); have BQ3 := Lib.hid (Blk.keeps BQ2.out ((Keeps.refl (fun _ => False) w2).drew.trans (k3 _)) (fun z => z)); have BR3 := Lib.hid (Blk.keeps BR2.out ((Keeps.refl (fun _ => False) w2).drew.trans (k3 _)) (fun z => z)); have K3 : Hid (∀ S, Keeps S w w3) := Lib.hid (fun S => ((K2.out S).drew).trans (k3 S)); clear k3)
  refine hK.out _ _ (HKS w3 BP3.out) (fun hHeld => ?_)
  clear hK K
  try simp only [Act.put, Array.getInternal_eq_getElem, List.getElem_toArray, List.getElem_cons_zero, List.getElem_cons_succ, List.setIfInBounds_toArray, List.set_cons_zero, List.set_cons_succ]
  refine wpAnyH_take (i := 5) (v := ?_) rfl (by kernel_rfl) (by kernel_rfl) (by kernel_rfl) (fun _ _ _ h => h) (Or.inl ⟨by kernel_rfl, ?_⟩) (by assumption) ?_
  rotate_left
  · (intro w hSw; (try dsimp only at hSw); go_simp) <;> (try (with_reducible rfl))
  try simp only [Act.put, Array.getInternal_eq_getElem, List.getElem_toArray, List.getElem_cons_zero, List.getElem_cons_succ, List.setIfInBounds_toArray, List.set_cons_zero, List.set_cons_succ]
  refine wpAnyH_done ?_ ?_ _
  · kernel_rfl
  clear hHeld
  generalize hq2 : w.heap.size + 1 + 1 = Q2 at *
  generalize hq1 : w.heap.size + 1 = Q1 at *
  obtain ⟨t0, b9, k9⟩ := over_all (vs := [.bool false, .int .u8 0, .int .u8 0, .int .u8 0, .int .u8 0, .int .u8 0, .int .u8 0, .int .u8 0, .int .u8 0, .int .u8 0, .int .u8 0, .int .u8 0, .int .u8 0, .int .u8 0, .int .u8 0, .int .u8 0, .int .u8 0, .int .i64 0]) BQ3.out rfl
  have bR9 := Blk.keeps BR3.out k9 (by omega)
  obtain ⟨t1, b8, k8⟩ := over_all (vs := [.bool false, .int .u8 0, .int .u8 0, .int .u8 0, .int .u8 0, .int .u8 0, .int .u8 0, .int .u8 0, .int .u8 0, .int .u8 0, .int .u8 0, .int .u8 0, .int .u8 0, .int .u8 0, .int .u8 0, .int .u8 0, .int .u8 0, .int .i64 0]) bR9 rfl
  have HT := Lib.hid (And.intro t0 t1)
  have B9 := Lib.hid (And.intro (Blk.keeps b9 k8 (by omega)) b8)
  have K9 := Lib.hid (k9.mono (S' := fun x => w.heap.size < x) (fun x _ e => by omega) |>.trans (k8.mono (S' := fun x => w.heap.size < x) (fun x _ e => by omega)))
  clear t0 b9 k9 t1 b8 k8 bR9
  go_wp2_with (first | (refine' wpList_store_mid rfl 28 _ _ rfl Q1 0 ([.bool false, .int .u8 0, .int .u8 0, .int .u8 0, .int .u8 0, .int .u8 0, .int .u8 0, .int .u8 0, .int .u8 0, .int .u8 0, .int .u8 0, .int .u8 0, .int .u8 0, .int .u8 0, .int .u8 0, .int .u8 0, .int .u8 0, .int .i64 0] : List Value).toArray ?hx rfl ?ht HSZ.out HZO.out ?_; (case hx => rfl); (case ht => exact HT.out.1)) | (refine' wpList_store_mid rfl 28 _ _ rfl Q2 0 ([.bool false, .int .u8 0, .int .u8 0, .int .u8 0, .int .u8 0, .int .u8 0, .int .u8 0, .int .u8 0, .int .u8 0, .int .u8 0, .int .u8 0, .int .u8 0, .int .u8 0, .int .u8 0, .int .u8 0, .int .u8 0, .int .u8 0, .int .i64 0] : List Value).toArray ?hx rfl ?ht HSZ.out HZO.out ?_; (case hx => rfl); (case ht => exact HT.out.2)))
  try rw [Exit.noGoto_ret]
  refine bodyPost_ret (ret_two (p := 2) (q := 3) (u := 4) (ty := 28) (by kernel_rfl) _ _ _ Q1 Q2 _ _ _ _ (by rfl) (by rfl) B9.out.1 B9.out.2 Tryz.underlying28 rfl HSZ2.out HSZ2.out) rfl ?_
  refine ⟨rfl, fun S => ?_⟩
  have kk := K3.out S
  have k9 := K9.out
  exact ⟨Nat.le_trans kk.size k9.size, fun x hx hs => by rw [k9.block x (Nat.lt_of_lt_of_le hx kk.size) (by omega), kk.block x hx hs], kk.same.trans k9.same⟩
set_option maxRecDepth 100000 in
set_option maxHeartbeats 4000000 in
theorem halves_in (p : Px) (hp : p.a.Wf) (ho : okP p) (hb : ¬ p.bits = (wid p.a : Int)) : Calls Tryz.prog 31 #[pv p] w fun e w' => e = .returned (.tuple #[pv (half0 p), pv (half1 p), .int .i64 0]) ∧ ∀ S, Keeps S w w' := by
  have HCP := fun w => Lib.hid (check_ w p hp)
  have HWD := fun w => Lib.hid (width_ p.a w)
  have HSP := Lib.hid (show (Tryz.prog.info? 28).map (·.size) = some (pxc p).length from by rw [pxc_len hp]; exact prefix_info)
  have HSA := Lib.hid (show (Tryz.prog.info? 24).map (·.size) = some (adc p.a).length from by rw [adc_len hp]; exact addr_info)
  have HSZ := Lib.hid (show (Tryz.prog.info? 28).map (·.size) = some ([.bool false, .int .u8 0, .int .u8 0, .int .u8 0, .int .u8 0, .int .u8 0, .int .u8 0, .int .u8 0, .int .u8 0, .int .u8 0, .int .u8 0, .int .u8 0, .int .u8 0, .int .u8 0, .int .u8 0, .int .u8 0, .int .u8 0, .int .i64 0] : List Value).toArray.size from prefix_info)
  have HSZ2 := Lib.hid (show (Tryz.prog.info? 28).map (·.size) = some ([.bool false, .int .u8 0, .int .u8 0, .int .u8 0, .int .u8 0, .int .u8 0, .int .u8 0, .int .u8 0, .int .u8 0, .int .u8 0, .int .u8 0, .int .u8 0, .int .u8 0, .int .u8 0, .int .u8 0, .int .u8 0, .int .u8 0, .int .i64 0] : List Value).length from prefix_info)
  have HZO := Lib.hid (all_oneCell_toArray zero_one)
  have HWF := Lib.hid hp
  obtain ⟨w1, hw1, k1, bP, bQ, bR⟩ := box_three w (pxc p) [.bool false, .int .u8 0, .int .u8 0, .int .u8 0, .int .u8 0, .int .u8 0, .int .u8 0, .int .u8 0, .int .u8 0, .int .u8 0, .int .u8 0, .int .u8 0, .int .u8 0, .int .u8 0, .int .u8 0, .int .u8 0, .int .u8 0, .int .i64 0] 28
  have HL1 := Lib.hid (wh.Blk.range bP)
  have HW : Hid (w1 = ((w.alloc (.cells (pxc p).toArray 28)).alloc (.cells #[.bool false, .int .u8 0, .int .u8 0, .int .u8 0, .int .u8 0, .int .u8 0, .int .u8 0, .int .u8 0, .int .u8 0, .int .u8 0, .int .u8 0, .int .u8 0, .int .u8 0, .int .u8 0, .int .u8 0, .int .u8 0, .int .u8 0, .int .i64 0] 28)).alloc (.cells #[.bool false, .int .u8 0, .int .u8 0, .int .u8 0, .int .u8 0, .int .u8 0, .int .u8 0, .int .u8 0, .int .u8 0, .int .u8 0, .int .u8 0, .int .u8 0, .int .u8 0, .int .u8 0, .int .u8 0, .int .u8 0, .int .u8 0, .int .i64 0] 28)) := Lib.hid hw1
  have K1 : Hid (∀ S, Keeps S w w1) := Lib.hid k1
  have BP := Lib.hid bP
  have BQ := Lib.hid bQ
  have BR := Lib.hid bR
  unfold pv at HCP
  unfold av at HWD
  rw [errP_ok ho] at HCP
  obtain ⟨m, hm⟩ : ∃ m : Nat, p.bits = (m : Int) := ⟨p.bits.toNat, by have := ho.2.1.1; omega⟩
  have HKS : ∀ w', Blk w' w.heap.size 28 (pxc p) → w'.rangeAt w.heap.size 0 (adc p.a) ∧ w'.cell? ⟨w.heap.size, 17, none⟩ = some (.int .i64 (m : Int)) := fun w' h => ⟨px_addr HWF.out h, by rw [← hm]; exact px_bits HWF.out h⟩
  have hw : ¬ m = wid p.a := by omega
  have m0 : (0 : Int) ≤ (m : Int) := by omega
  have m1 : (m : Int) ≤ 128 := by have := ho.2.1.2; have := (wid_le p.a).1; omega
  have hlm : m < 128 := by have := ho.2.1.2; have := (wid_le p.a).1; omega
  have hpw := put_wf HWF.out m hlm true
  have HWT := fun w => Lib.hid (with_ p.a w m true HWF.out hlm)
  have HHV := Lib.hid (show half0 p = ⟨p.a, (m : Int) + 1⟩ ∧ half1 p = ⟨put p.a m true, (m : Int) + 1⟩ from ⟨by unfold half0; rw [hm], by unfold half1; rw [hm]; rfl⟩)
  have hw2 : ¬ (m : Int) = (wid p.a : Int) := by omega
  have hweq : decide ((m : Int) = (wid p.a : Int)) = false := decide_eq_false hw2
  have hwbe : ((m : Int) == (wid p.a : Int)) = false := by simpa using hw2
  obtain ⟨r0, r1, r2, r3, r4, r5, r6, r7, r8, r9, r10, r11, r12, r13, r14, r15, hr⟩ := sixteen hpw.len
  obtain ⟨b2, hb2⟩ : ∃ b2, b2 = put p.a m true := ⟨_, rfl⟩
  rw [← hb2] at HWT HHV hr
  have hb2v : b2.v6 = p.a.v6 := by rw [hb2]; rfl
  obtain ⟨v2, B2⟩ := b2
  simp only at hr hb2v
  subst hr
  subst hb2v
  obtain ⟨q0, q1, q2, q3, q4, q5, q6, q7, q8, q9, q10, q11, q12, q13, q14, q15, hq⟩ := sixteen HWF.out.len
  have HWQ := Lib.hid (And.intro hq True.intro)
  have hadc : adc p.a = .bool p.a.v6 :: b8s [q0, q1, q2, q3, q4, q5, q6, q7, q8, q9, q10, q11, q12, q13, q14, q15] := by unfold adc; rw [hq]
  have HKL : ∀ w', Blk w' w.heap.size 28 (pxc p) → w'.rangeAt w.heap.size 0 ([.bool p.a.v6, .int .u8 (q0 : Int), .int .u8 (q1 : Int), .int .u8 (q2 : Int), .int .u8 (q3 : Int), .int .u8 (q4 : Int), .int .u8 (q5 : Int), .int .u8 (q6 : Int), .int .u8 (q7 : Int), .int .u8 (q8 : Int), .int .u8 (q9 : Int), .int .u8 (q10 : Int), .int .u8 (q11 : Int), .int .u8 (q12 : Int), .int .u8 (q13 : Int), .int .u8 (q14 : Int), .int .u8 (q15 : Int)]) ∧ w'.cell? ⟨w.heap.size, 17, none⟩ = some (.int .i64 (m : Int)) := fun w' h => ⟨by have := (HKS w' h).1; rw [hadc] at this; exact this, (HKS w' h).2⟩
  have HSq : Hid ((Tryz.prog.info? 24).map (·.size) = some ([.bool p.a.v6, .int .u8 (q0 : Int), .int .u8 (q1 : Int), .int .u8 (q2 : Int), .int .u8 (q3 : Int), .int .u8 (q4 : Int), .int .u8 (q5 : Int), .int .u8 (q6 : Int), .int .u8 (q7 : Int), .int .u8 (q8 : Int), .int .u8 (q9 : Int), .int .u8 (q10 : Int), .int .u8 (q11 : Int), .int .u8 (q12 : Int), .int .u8 (q13 : Int), .int .u8 (q14 : Int), .int .u8 (q15 : Int)] : List Value).length) := Lib.hid addr_info
  have HWT : ∀ w, Hid (Calls Tryz.prog 48 #[.agg #[.bool p.a.v6, .int .u8 (q0 : Int), .int .u8 (q1 : Int), .int .u8 (q2 : Int), .int .u8 (q3 : Int), .int .u8 (q4 : Int), .int .u8 (q5 : Int), .int .u8 (q6 : Int), .int .u8 (q7 : Int), .int .u8 (q8 : Int), .int .u8 (q9 : Int), .int .u8 (q10 : Int), .int .u8 (q11 : Int), .int .u8 (q12 : Int), .int .u8 (q13 : Int), .int .u8 (q14 : Int), .int .u8 (q15 : Int)], .int .i64 (m : Int), .bool true] w fun e w' => e = .returned (.agg #[.bool p.a.v6, .int .u8 (r0 : Int), .int .u8 (r1 : Int), .int .u8 (r2 : Int), .int .u8 (r3 : Int), .int .u8 (r4 : Int), .int .u8 (r5 : Int), .int .u8 (r6 : Int), .int .u8 (r7 : Int), .int .u8 (r8 : Int), .int .u8 (r9 : Int), .int .u8 (r10 : Int), .int .u8 (r11 : Int), .int .u8 (r12 : Int), .int .u8 (r13 : Int), .int .u8 (r14 : Int), .int .u8 (r15 : Int)]) ∧ ∀ S, Keeps S w w') := fun w => Lib.hid (by have h := (HWT w).out; unfold av at h; rw [hadc] at h; exact h)
  have hwr : IntKind.i64.wrap ((m : Int) + 1) = (m : Int) + 1 := by rw [IntKind.wrap_i64]; omega
  have HRS := Lib.hid (show pv (half0 p) = .agg #[.bool p.a.v6, .int .u8 (q0 : Int), .int .u8 (q1 : Int), .int .u8 (q2 : Int), .int .u8 (q3 : Int), .int .u8 (q4 : Int), .int .u8 (q5 : Int), .int .u8 (q6 : Int), .int .u8 (q7 : Int), .int .u8 (q8 : Int), .int .u8 (q9 : Int), .int .u8 (q10 : Int), .int .u8 (q11 : Int), .int .u8 (q12 : Int), .int .u8 (q13 : Int), .int .u8 (q14 : Int), .int .u8 (q15 : Int), .int .i64 (IntKind.i64.wrap ((m : Int) + 1))] ∧ pv (half1 p) = .agg #[.bool p.a.v6, .int .u8 (r0 : Int), .int .u8 (r1 : Int), .int .u8 (r2 : Int), .int .u8 (r3 : Int), .int .u8 (r4 : Int), .int .u8 (r5 : Int), .int .u8 (r6 : Int), .int .u8 (r7 : Int), .int .u8 (r8 : Int), .int .u8 (r9 : Int), .int .u8 (r10 : Int), .int .u8 (r11 : Int), .int .u8 (r12 : Int), .int .u8 (r13 : Int), .int .u8 (r14 : Int), .int .u8 (r15 : Int), .int .i64 (IntKind.i64.wrap ((m : Int) + 1))] from ⟨by rw [hwr, HHV.out.1]; show Value.agg (adc p.a ++ _).toArray = _; rw [hadc]; rfl, by rw [hwr, HHV.out.2]; rfl⟩)
  rw [HRS.out.1, HRS.out.2]
  clear hwr HHV HRS hpw hb2 hlm HWQ hadc hq ho hp hb hm hw
  generalize p.a.v6 = v at *
  show Calls Tryz.prog 31 #[.agg (pxc p).toArray] w _
  clear hw1 k1 bP bQ bR
  go_enter Tryz.func31, Tryz.ntmps31
  go_wp2_with (first | (rw [← HW.out]; refine wpList_load_mid rfl 28 _ rfl w.heap.size 0 rfl (pxc p) _ HL1.out Tryz.underlying28 rfl HSP.out ?_))
  refine (HCP _).out.mono ?_
  rintro e w2 ⟨rfl, k2⟩
  have K2 : Hid (∀ S, Keeps S w w2) := Lib.hid (fun S => (K1.out S).trans (k2 S))
  have BP2 := Lib.hid (Blk.keeps BP.out (k2 (fun _ => False)) (fun z => z))
  have BQ2 := Lib.hid (Blk.keeps BQ.out (k2 (fun _ => False)) (fun z => z))
  have BR2 := Lib.hid (Blk.keeps BR.out (k2 (fun _ => False)) (fun z => z))
  clear k2
  go_wp2_with fail
  refine wp_region_held_drew (S := fun w' => w'.rangeAt w.heap.size 0 (adc p.a) ∧ w'.cell? ⟨w.heap.size, 17, none⟩ = some (.int .i64 (m : Int))) (by kernel_rfl) (HKS w2.drew BP2.out) (fun hHeld => ?_)
  refine wpAnyH_take (i := 0) (v := ?_) rfl (by kernel_rfl) (by kernel_rfl) (by kernel_rfl) (fun _ _ _ h => h) (Or.inl ⟨by kernel_rfl, ?_⟩) (by assumption) ?_
  rotate_left
  · (intro w hSw; (try dsimp only at hSw); go_simp) <;> (try (with_reducible rfl))
  try simp only [Act.put, Array.getInternal_eq_getElem, List.getElem_toArray, List.getElem_cons_zero, List.getElem_cons_succ, List.setIfInBounds_toArray, List.set_cons_zero, List.set_cons_succ]
  refine wpAnyH_take (i := 1) (v := ?_) rfl (by kernel_rfl) (by kernel_rfl) (by kernel_rfl) (fun _ _ _ h => h) (Or.inl ⟨by kernel_rfl, ?_⟩) (by assumption) ?_
  rotate_left
  · (intro w hSw; (try dsimp only at hSw); go_simp) <;> (try (with_reducible rfl))
  try simp only [Act.put, Array.getInternal_eq_getElem, List.getElem_toArray, List.getElem_cons_zero, List.getElem_cons_succ, List.setIfInBounds_toArray, List.set_cons_zero, List.set_cons_succ]
  refine wpAnyH_take (i := 2) (v := ?_) rfl (by kernel_rfl) (by kernel_rfl) (by kernel_rfl) (fun _ _ _ h => h) (Or.inl ⟨by kernel_rfl, ?_⟩) (by assumption) ?_
  rotate_left
  · (intro w hSw; (try dsimp only at hSw); go_simp) <;> (try (with_reducible rfl))
  try simp only [Act.put, Array.getInternal_eq_getElem, List.getElem_toArray, List.getElem_cons_zero, List.getElem_cons_succ, List.setIfInBounds_toArray, List.set_cons_zero, List.set_cons_succ]
  refine' wpAnyH_take (i := 3) (v := _) rfl (by kernel_rfl) (by kernel_rfl) (by kernel_rfl) (fun _ _ _ h => h) (yieldsIf_load_mid (by kernel_rfl) _ _ rfl _ _ rfl _ _ (fun w hSw => hSw.1) Tryz.underlying24 rfl HSA.out) (by assumption) ?_
  try simp only [Act.put, Array.getInternal_eq_getElem, List.getElem_toArray, List.getElem_cons_zero, List.getElem_cons_succ, List.setIfInBounds_toArray, List.set_cons_zero, List.set_cons_succ]
  refine wpAnyH_ready (rs := [4]) (by kernel_rfl) (by simp) ?_
  refine AllReadyH.cons rfl (fun K hK => ?_) AllReadyH.nil
  (rw [if_pos (by kernel_rfl)]; go_simp; go_at_call 46; refine (HWD _).out.mono ?_; rintro e w3 ⟨rfl, k3⟩; have BP3 := Lib.hid (Blk.keeps BP2.out ((Keeps.refl (fun _ => False) w2).drew.trans (k3 _)) (fun z => z)); have BQ3 := Lib.hid (Blk.keeps BQ2.out ((Keeps.refl (fun _ => False) w2).drew.trans (k3 _)) (fun z => z)); have BR3 := Lib.hid (Blk.keeps BR2.out ((Keeps.refl (fun _ => False) w2).drew.trans (k3 _)) (fun z => z)); have K3 : Hid (∀ S, Keeps S w w3) := Lib.hid (fun S => ((K2.out S).drew).trans (k3 S)); clear k3)
  refine hK.out _ _ (HKS w3 BP3.out) (fun hHeld => ?_)
  clear hK K
  try simp only [Act.put, Array.getInternal_eq_getElem, List.getElem_toArray, List.getElem_cons_zero, List.getElem_cons_succ, List.setIfInBounds_toArray, List.set_cons_zero, List.set_cons_succ]
  refine wpAnyH_take (i := 5) (v := ?_) rfl (by kernel_rfl) (by kernel_rfl) (by kernel_rfl) (fun _ _ _ h => h) (Or.inl ⟨by kernel_rfl, ?_⟩) (by assumption) ?_
  rotate_left
  · (intro w hSw; (try dsimp only at hSw); go_simp) <;> (try (with_reducible rfl))
  try simp only [Act.put, Array.getInternal_eq_getElem, List.getElem_toArray, List.getElem_cons_zero, List.getElem_cons_succ, List.setIfInBounds_toArray, List.set_cons_zero, List.set_cons_succ]
  refine wpAnyH_done ?_ ?_ _
  · kernel_rfl
  clear hHeld HL1 HCP HKS HWD K1 K2 BP BP2 BQ BQ2 BR BR2
  have HQ := Lib.hid (show w.heap.size ≠ w.heap.size + 1 ∧ w.heap.size ≠ w.heap.size + 1 + 1 ∧ w.heap.size + 1 ≠ w.heap.size + 1 + 1 from ⟨by omega, by omega, by omega⟩)
  have HQ2 := Lib.hid (show w.heap.size < w.heap.size + 1 ∧ w.heap.size < w.heap.size + 1 + 1 from ⟨by omega, by omega⟩)
  have HSF : Hid ((Tryz.prog.info? 28).map (·.size) = some ([.bool v, .int .u8 (q0 : Int), .int .u8 (q1 : Int), .int .u8 (q2 : Int), .int .u8 (q3 : Int), .int .u8 (q4 : Int), .int .u8 (q5 : Int), .int .u8 (q6 : Int), .int .u8 (q7 : Int), .int .u8 (q8 : Int), .int .u8 (q9 : Int), .int .u8 (q10 : Int), .int .u8 (q11 : Int), .int .u8 (q12 : Int), .int .u8 (q13 : Int), .int .u8 (q14 : Int), .int .u8 (q15 : Int), .int .i64 (IntKind.i64.wrap ((m : Int) + 1))] : List Value).toArray.size) := Lib.hid prefix_info
  have HSF2 : Hid ((Tryz.prog.info? 28).map (·.size) = some ([.bool v, .int .u8 (q0 : Int), .int .u8 (q1 : Int), .int .u8 (q2 : Int), .int .u8 (q3 : Int), .int .u8 (q4 : Int), .int .u8 (q5 : Int), .int .u8 (q6 : Int), .int .u8 (q7 : Int), .int .u8 (q8 : Int), .int .u8 (q9 : Int), .int .u8 (q10 : Int), .int .u8 (q11 : Int), .int .u8 (q12 : Int), .int .u8 (q13 : Int), .int .u8 (q14 : Int), .int .u8 (q15 : Int), .int .i64 (IntKind.i64.wrap ((m : Int) + 1))] : List Value).length) := Lib.hid prefix_info
  have HOF := Lib.hid (And.intro (all_oneCell_toArray (cs := [.bool v, .int .u8 (q0 : Int), .int .u8 (q1 : Int), .int .u8 (q2 : Int), .int .u8 (q3 : Int), .int .u8 (q4 : Int), .int .u8 (q5 : Int), .int .u8 (q6 : Int), .int .u8 (q7 : Int), .int .u8 (q8 : Int), .int .u8 (q9 : Int), .int .u8 (q10 : Int), .int .u8 (q11 : Int), .int .u8 (q12 : Int), .int .u8 (q13 : Int), .int .u8 (q14 : Int), .int .u8 (q15 : Int), .int .i64 (IntKind.i64.wrap ((m : Int) + 1))]) (px_one ⟨⟨v, [q0, q1, q2, q3, q4, q5, q6, q7, q8, q9, q10, q11, q12, q13, q14, q15]⟩, IntKind.i64.wrap ((m : Int) + 1)⟩)) (all_oneCell_toArray (cs := [.bool v, .int .u8 (r0 : Int), .int .u8 (r1 : Int), .int .u8 (r2 : Int), .int .u8 (r3 : Int), .int .u8 (r4 : Int), .int .u8 (r5 : Int), .int .u8 (r6 : Int), .int .u8 (r7 : Int), .int .u8 (r8 : Int), .int .u8 (r9 : Int), .int .u8 (r10 : Int), .int .u8 (r11 : Int), .int .u8 (r12 : Int), .int .u8 (r13 : Int), .int .u8 (r14 : Int), .int .u8 (r15 : Int), .int .i64 (IntKind.i64.wrap ((m : Int) + 1))]) (px_one ⟨⟨v, [r0, r1, r2, r3, r4, r5, r6, r7, r8, r9, r10, r11, r12, r13, r14, r15]⟩, IntKind.i64.wrap ((m : Int) + 1)⟩)))
  generalize hq2 : w.heap.size + 1 + 1 = Q2 at *
  generalize hq1 : w.heap.size + 1 = Q1 at *
  go_wp2_with fail
  refine wp_region_held_drew (S := fun w' => w'.rangeAt w.heap.size 0 [.bool v, .int .u8 (q0 : Int), .int .u8 (q1 : Int), .int .u8 (q2 : Int), .int .u8 (q3 : Int), .int .u8 (q4 : Int), .int .u8 (q5 : Int), .int .u8 (q6 : Int), .int .u8 (q7 : Int), .int .u8 (q8 : Int), .int .u8 (q9 : Int), .int .u8 (q10 : Int), .int .u8 (q11 : Int), .int .u8 (q12 : Int), .int .u8 (q13 : Int), .int .u8 (q14 : Int), .int .u8 (q15 : Int)] ∧ w'.cell? ⟨w.heap.size, 17, none⟩ = some (.int .i64 (m : Int))) (by kernel_rfl) (HKL w3.drew BP3.out) (fun hHeld => ?_)
  refine wpAnyH_take (i := 0) (v := ?_) rfl (by kernel_rfl) (by kernel_rfl) (by kernel_rfl) (fun _ _ _ h => h) (Or.inl ⟨by kernel_rfl, ?_⟩) (by assumption) ?_
  rotate_left
  · (intro w hSw; (try dsimp only at hSw); go_simp) <;> (try (with_reducible rfl))
  try simp only [Act.put, Array.getInternal_eq_getElem, List.getElem_toArray, List.getElem_cons_zero, List.getElem_cons_succ, List.setIfInBounds_toArray, List.set_cons_zero, List.set_cons_succ]
  refine' wpAnyH_take (i := 1) (v := _) rfl (by kernel_rfl) (by kernel_rfl) (by kernel_rfl) (fun _ _ _ h => h) (yieldsIf_load_mid (by kernel_rfl) _ _ rfl _ _ rfl _ _ (fun w hSw => hSw.1) Tryz.underlying24 rfl HSq.out) (by assumption) ?_
  try simp only [Act.put, Array.getInternal_eq_getElem, List.getElem_toArray, List.getElem_cons_zero, List.getElem_cons_succ, List.setIfInBounds_toArray, List.set_cons_zero, List.set_cons_succ]
  refine wpAnyH_take (i := 2) (v := ?_) rfl (by kernel_rfl) (by kernel_rfl) (by kernel_rfl) (fun _ _ _ h => h) (Or.inl ⟨by kernel_rfl, ?_⟩) (by assumption) ?_
  rotate_left
  · (intro w hSw; (try dsimp only at hSw); go_simp) <;> (try (with_reducible rfl))
  try simp only [Act.put, Array.getInternal_eq_getElem, List.getElem_toArray, List.getElem_cons_zero, List.getElem_cons_succ, List.setIfInBounds_toArray, List.set_cons_zero, List.set_cons_succ]
  refine wpAnyH_take (i := 3) (v := ?_) rfl (by kernel_rfl) (by kernel_rfl) (by kernel_rfl) (fun _ _ _ h => h) (Or.inl ⟨by kernel_rfl, ?_⟩) (by assumption) ?_
  rotate_left
  · (intro w hSw; (try dsimp only at hSw); go_simp) <;> (try (with_reducible rfl))
  try simp only [Act.put, Array.getInternal_eq_getElem, List.getElem_toArray, List.getElem_cons_zero, List.getElem_cons_succ, List.setIfInBounds_toArray, List.set_cons_zero, List.set_cons_succ]
  refine wpAnyH_take (i := 4) (v := ?_) rfl (by kernel_rfl) (by kernel_rfl) (by kernel_rfl) (fun _ _ _ h => h) (Or.inl ⟨by kernel_rfl, ?_⟩) (by assumption) ?_
  rotate_left
  · (intro w hSw; (try dsimp only at hSw); go_simp) <;> (try (with_reducible rfl))
  try simp only [Act.put, Array.getInternal_eq_getElem, List.getElem_toArray, List.getElem_cons_zero, List.getElem_cons_succ, List.setIfInBounds_toArray, List.set_cons_zero, List.set_cons_succ]
  refine wpAnyH_take (i := 5) (v := ?_) rfl (by kernel_rfl) (by kernel_rfl) (by kernel_rfl) (fun _ _ _ h => h) (Or.inl ⟨by kernel_rfl, ?_⟩) (by assumption) ?_
  rotate_left
  · (intro w hSw; (try dsimp only at hSw); go_simp) <;> (try (with_reducible rfl))
  try simp only [Act.put, Array.getInternal_eq_getElem, List.getElem_toArray, List.getElem_cons_zero, List.getElem_cons_succ, List.setIfInBounds_toArray, List.set_cons_zero, List.set_cons_succ]
  refine wpAnyH_take (i := 6) (v := ?_) rfl (by kernel_rfl) (by kernel_rfl) (by kernel_rfl) (fun _ _ _ h => h) (Or.inl ⟨by kernel_rfl, ?_⟩) (by assumption) ?_
  rotate_left
  · (intro w hSw; (try dsimp only at hSw); go_simp) <;> (try (with_reducible rfl))
  try simp only [Act.put, Array.getInternal_eq_getElem, List.getElem_toArray, List.getElem_cons_zero, List.getElem_cons_succ, List.setIfInBounds_toArray, List.set_cons_zero, List.set_cons_succ]
  refine' wpAnyH_take (i := 7) (v := _) rfl (by kernel_rfl) (by kernel_rfl) (by kernel_rfl) (fun _ _ _ h => h) (yieldsIf_load_mid (by kernel_rfl) _ _ rfl _ _ rfl _ _ (fun w hSw => hSw.1) Tryz.underlying24 rfl HSq.out) (by assumption) ?_
  try simp only [Act.put, Array.getInternal_eq_getElem, List.getElem_toArray, List.getElem_cons_zero, List.getElem_cons_succ, List.setIfInBounds_toArray, List.set_cons_zero, List.set_cons_succ]
  refine wpAnyH_take (i := 8) (v := ?_) rfl (by kernel_rfl) (by kernel_rfl) (by kernel_rfl) (fun _ _ _ h => h) (Or.inl ⟨by kernel_rfl, ?_⟩) (by assumption) ?_
  rotate_left
  · (intro w hSw; (try dsimp only at hSw); go_simp) <;> (try (with_reducible rfl))
  try simp only [Act.put, Array.getInternal_eq_getElem, List.getElem_toArray, List.getElem_cons_zero, List.getElem_cons_succ, List.setIfInBounds_toArray, List.set_cons_zero, List.set_cons_succ]
  refine wpAnyH_take (i := 9) (v := ?_) rfl (by kernel_rfl) (by kernel_rfl) (by kernel_rfl) (fun _ _ _ h => h) (Or.inl ⟨by kernel_rfl, ?_⟩) (by assumption) ?_
  rotate_left
  · (intro w hSw; (try dsimp only at hSw); go_simp) <;> (try (with_reducible rfl))
  try simp only [Act.put, Array.getInternal_eq_getElem, List.getElem_toArray, List.getElem_cons_zero, List.getElem_cons_succ, List.setIfInBounds_toArray, List.set_cons_zero, List.set_cons_succ]
  refine wpAnyH_take (i := 11) (v := ?_) rfl (by kernel_rfl) (by kernel_rfl) (by kernel_rfl) (fun _ _ _ h => h) (Or.inl ⟨by kernel_rfl, ?_⟩) (by assumption) ?_
  rotate_left
  · (intro w hSw; (try dsimp only at hSw); go_simp) <;> (try (with_reducible rfl))
  try simp only [Act.put, Array.getInternal_eq_getElem, List.getElem_toArray, List.getElem_cons_zero, List.getElem_cons_succ, List.setIfInBounds_toArray, List.set_cons_zero, List.set_cons_succ]
  refine wpAnyH_take (i := 12) (v := ?_) rfl (by kernel_rfl) (by kernel_rfl) (by kernel_rfl) (fun _ _ _ h => h) (Or.inl ⟨by kernel_rfl, ?_⟩) (by assumption) ?_
  rotate_left
  · (intro w hSw; (try dsimp only at hSw); go_simp) <;> (try (with_reducible rfl))
  try simp only [Act.put, Array.getInternal_eq_getElem, List.getElem_toArray, List.getElem_cons_zero, List.getElem_cons_succ, List.setIfInBounds_toArray, List.set_cons_zero, List.set_cons_succ]
  refine wpAnyH_take (i := 13) (v := ?_) rfl (by kernel_rfl) (by kernel_rfl) (by kernel_rfl) (fun _ _ _ h => h) (Or.inl ⟨by kernel_rfl, ?_⟩) (by assumption) ?_
  rotate_left
  · (intro w hSw; (try dsimp only at hSw); go_simp) <;> (try (with_reducible rfl))
  try simp only [Act.put, Array.getInternal_eq_getElem, List.getElem_toArray, List.getElem_cons_zero, List.getElem_cons_succ, List.setIfInBounds_toArray, List.set_cons_zero, List.set_cons_succ]
  refine wpAnyH_ready (rs := [10]) (by kernel_rfl) (by simp) ?_
  refine AllReadyH.cons rfl (fun K hK => ?_) AllReadyH.nil
  (rw [if_pos (by kernel_rfl)]; go_simp; go_at_call 48; refine (HWT _).out.mono ?_; rintro e w4 ⟨rfl, k4⟩; have kk : ∀ S, Keeps S w3 w4 := fun S => ((Keeps.refl S w3).drew).trans (k4 S); have BP4 := Lib.hid (Blk.keeps BP3.out (kk (fun _ => False)) (fun z => z)); have BQ4 := Lib.hid (Blk.keeps BQ3.out (kk (fun _ => False)) (fun z => z)); have BR4 := Lib.hid (Blk.keeps BR3.out (kk (fun _ => False)) (fun z => z)); have K4 : Hid (∀ S, Keeps S w w4) := Lib.hid (fun S => (K3.out S).trans (kk S)); clear k4 kk)
  refine hK.out _ _ (HKL w4 BP4.out) (fun hHeld => ?_)
  clear hK K
  try simp only [Act.put, Array.getInternal_eq_getElem, List.getElem_toArray, List.getElem_cons_zero, List.getElem_cons_succ, List.setIfInBounds_toArray, List.set_cons_zero, List.set_cons_succ]
  refine wpAnyH_take (i := 14) (v := ?_) rfl (by kernel_rfl) (by kernel_rfl) (by kernel_rfl) (fun _ _ _ h => h) (Or.inl ⟨by kernel_rfl, ?_⟩) (by assumption) ?_
  rotate_left
  · (intro w hSw; (try dsimp only at hSw); go_simp) <;> (try (with_reducible rfl))
  try simp only [Act.put, Array.getInternal_eq_getElem, List.getElem_toArray, List.getElem_cons_zero, List.getElem_cons_succ, List.setIfInBounds_toArray, List.set_cons_zero, List.set_cons_succ]
  obtain ⟨w5, hw5⟩ : ∃ w5, w5 = w4.setCells Q1 0 [.bool v, .int .u8 (q0 : Int), .int .u8 (q1 : Int), .int .u8 (q2 : Int), .int .u8 (q3 : Int), .int .u8 (q4 : Int), .int .u8 (q5 : Int), .int .u8 (q6 : Int), .int .u8 (q7 : Int), .int .u8 (q8 : Int), .int .u8 (q9 : Int), .int .u8 (q10 : Int), .int .u8 (q11 : Int), .int .u8 (q12 : Int), .int .u8 (q13 : Int), .int .u8 (q14 : Int), .int .u8 (q15 : Int), .int .i64 (IntKind.i64.wrap ((m : Int) + 1))] := ⟨_, rfl⟩
  obtain ⟨w6, hw6⟩ : ∃ w6, w6 = w5.setCells Q2 0 [.bool v, .int .u8 (r0 : Int), .int .u8 (r1 : Int), .int .u8 (r2 : Int), .int .u8 (r3 : Int), .int .u8 (r4 : Int), .int .u8 (r5 : Int), .int .u8 (r6 : Int), .int .u8 (r7 : Int), .int .u8 (r8 : Int), .int .u8 (r9 : Int), .int .u8 (r10 : Int), .int .u8 (r11 : Int), .int .u8 (r12 : Int), .int .u8 (r13 : Int), .int .u8 (r14 : Int), .int .u8 (r15 : Int), .int .i64 (IntKind.i64.wrap ((m : Int) + 1))] := ⟨_, rfl⟩
  have HT4 := two_over (C1 := [.bool v, .int .u8 (q0 : Int), .int .u8 (q1 : Int), .int .u8 (q2 : Int), .int .u8 (q3 : Int), .int .u8 (q4 : Int), .int .u8 (q5 : Int), .int .u8 (q6 : Int), .int .u8 (q7 : Int), .int .u8 (q8 : Int), .int .u8 (q9 : Int), .int .u8 (q10 : Int), .int .u8 (q11 : Int), .int .u8 (q12 : Int), .int .u8 (q13 : Int), .int .u8 (q14 : Int), .int .u8 (q15 : Int), .int .i64 (IntKind.i64.wrap ((m : Int) + 1))]) (C2 := [.bool v, .int .u8 (r0 : Int), .int .u8 (r1 : Int), .int .u8 (r2 : Int), .int .u8 (r3 : Int), .int .u8 (r4 : Int), .int .u8 (r5 : Int), .int .u8 (r6 : Int), .int .u8 (r7 : Int), .int .u8 (r8 : Int), .int .u8 (r9 : Int), .int .u8 (r10 : Int), .int .u8 (r11 : Int), .int .u8 (r12 : Int), .int .u8 (r13 : Int), .int .u8 (r14 : Int), .int .u8 (r15 : Int), .int .i64 (IntKind.i64.wrap ((m : Int) + 1))]) BP4.out BQ4.out BR4.out rfl rfl HQ.out.1 HQ.out.2.1 HQ.out.2.2
  rw [← hw5, ← hw6] at HT4
  have HT := Lib.hid (And.intro HT4.1 HT4.2.1)
  have B9 := Lib.hid (And.intro HT4.2.2.1 HT4.2.2.2.1)
  have K9 := Lib.hid HT4.2.2.2.2.1
  have BP5 := Lib.hid HT4.2.2.2.2.2.1
  have BP6 := Lib.hid HT4.2.2.2.2.2.2
  have HW5 := Lib.hid (And.intro hw5 hw6)
  clear HT4 hw5 hw6
  refine wpAnyH_ready (rs := [15]) (by kernel_rfl) (by simp) ?_
  refine AllReadyH.cons rfl (fun K hK => ?_) AllReadyH.nil
  (rw [if_pos (by kernel_rfl)]; simp only [Array.getInternal_eq_getElem, List.getElem_toArray, List.getElem_cons_zero, List.getElem_cons_succ]; refine wp_store_mid 28 _ _ rfl Q1 0 ([.bool v, .int .u8 (q0 : Int), .int .u8 (q1 : Int), .int .u8 (q2 : Int), .int .u8 (q3 : Int), .int .u8 (q4 : Int), .int .u8 (q5 : Int), .int .u8 (q6 : Int), .int .u8 (q7 : Int), .int .u8 (q8 : Int), .int .u8 (q9 : Int), .int .u8 (q10 : Int), .int .u8 (q11 : Int), .int .u8 (q12 : Int), .int .u8 (q13 : Int), .int .u8 (q14 : Int), .int .u8 (q15 : Int), .int .i64 (IntKind.i64.wrap ((m : Int) + 1))] : List Value).toArray rfl rfl HT.out.1 HSF.out HOF.out.1 ?_; simp only [List.toList_toArray, Act.put]; rw [← HW5.out.1])
  refine hK.out _ _ (HKL w5 BP5.out) (fun hHeld => ?_)
  clear hK K
  try simp only [Act.put, Array.getInternal_eq_getElem, List.getElem_toArray, List.getElem_cons_zero, List.getElem_cons_succ, List.setIfInBounds_toArray, List.set_cons_zero, List.set_cons_succ]
  refine wpAnyH_ready (rs := [16]) (by kernel_rfl) (by simp) ?_
  refine AllReadyH.cons rfl (fun K hK => ?_) AllReadyH.nil
  (rw [if_pos (by kernel_rfl)]; simp only [Array.getInternal_eq_getElem, List.getElem_toArray, List.getElem_cons_zero, List.getElem_cons_succ]; refine wp_store_mid 28 _ _ rfl Q2 0 ([.bool v, .int .u8 (r0 : Int), .int .u8 (r1 : Int), .int .u8 (r2 : Int), .int .u8 (r3 : Int), .int .u8 (r4 : Int), .int .u8 (r5 : Int), .int .u8 (r6 : Int), .int .u8 (r7 : Int), .int .u8 (r8 : Int), .int .u8 (r9 : Int), .int .u8 (r10 : Int), .int .u8 (r11 : Int), .int .u8 (r12 : Int), .int .u8 (r13 : Int), .int .u8 (r14 : Int), .int .u8 (r15 : Int), .int .i64 (IntKind.i64.wrap ((m : Int) + 1))] : List Value).toArray rfl rfl HT.out.2 HSF.out HOF.out.2 ?_; simp only [List.toList_toArray, Act.put]; rw [← HW5.out.2])
  refine hK.out _ _ (HKL w6 BP6.out) (fun hHeld => ?_)
  clear hK K
  try simp only [Act.put, Array.getInternal_eq_getElem, List.getElem_toArray, List.getElem_cons_zero, List.getElem_cons_succ, List.setIfInBounds_toArray, List.set_cons_zero, List.set_cons_succ]
  refine wpAnyH_take (i := 17) (v := ?_) rfl (by kernel_rfl) (by kernel_rfl) (by kernel_rfl) (fun _ _ _ h => h) (Or.inl ⟨by kernel_rfl, ?_⟩) (by assumption) ?_
  rotate_left
  · (intro w hSw; (try dsimp only at hSw); go_simp) <;> (try (with_reducible rfl))
  try simp only [Act.put, Array.getInternal_eq_getElem, List.getElem_toArray, List.getElem_cons_zero, List.getElem_cons_succ, List.setIfInBounds_toArray, List.set_cons_zero, List.set_cons_succ]
  refine wpAnyH_done ?_ ?_ _
  · kernel_rfl
  clear hHeld
  go_wp2
  try rw [Exit.noGoto_ret]
  refine bodyPost_ret (ret_two (p := 2) (q := 3) (u := 4) (ty := 28) (by kernel_rfl) _ _ _ Q1 Q2 _ _ _ _ (by rfl) (by rfl) B9.out.1 B9.out.2 Tryz.underlying28 rfl HSF2.out HSF2.out) rfl ?_
  refine ⟨rfl, fun S => ?_⟩
  have kk := K4.out S
  have k9 := K9.out
  exact ⟨Nat.le_trans kk.size k9.size, fun x hx hs => by rw [k9.block x (Nat.lt_of_lt_of_le hx kk.size) (by have := HQ2.out; omega), kk.block x hx hs], kk.same.trans k9.same⟩
end
end Go.Proofs.YtgcdhfpbmcfedaaGreatDoor.pf
end
section
set_option linter.unusedVariables false
set_option linter.unusedSimpArgs false
namespace Go.Proofs.YtgcdhfpbmcfedaaGreatDoor.pf
open Go.RowKit Go.Proofs.YtgcdhfpbmcfedaaGreatDoor.oc Go.Proofs.YtgcdhfpbmcfedaaGreatDoor.mz Go.Proofs.YtgcdhfpbmcfedaaGreatDoor.wh
/-- the byte at a place -/
theorem str_get {l : List Nat} {i c : Nat} (hc : l[i]? = some c) (h256 : c < 256) (s : ByteArray) (hs : s = str l) (h : i < s.size) : (s[i]'h).toNat = c := by
  subst hs
  obtain ⟨hi, he⟩ := List.getElem?_eq_some_iff.1 hc
  have : (str l)[i]'h = UInt8.ofNat c := by
    show (str l).data[i] = _
    simp [str, he]
  rw [this]
  simp [UInt8.toNat_ofNat']
  omega
/-- a digit's value -/
def hexv (c : Nat) : Int := if 48 ≤ c ∧ c ≤ 57 then (c : Int) - 48 else if 97 ≤ c ∧ c ≤ 102 then (c : Int) - 87 else -1
set_option maxRecDepth 100000 in
set_option maxHeartbeats 1000000 in
theorem hex_dec (c : Nat) (w : World) (h : c < 256) (h1 : 48 ≤ c) (h2 : c ≤ 57) : Calls Tryz.prog 95 #[.int .u8 (c : Int)] w fun e w' => e = .returned (.int .i64 (hexv c)) ∧ w = w' := by
  have hv : hexv c = (c : Int) - 48 := by unfold hexv; rw [if_pos ⟨h1, h2⟩]
  rw [hv]
  have q0 : (48 : Int) ≤ (c : Int) := by omega
  have q1 : (c : Int) ≤ 57 := by omega
  clear hv
  go_enter Tryz.func95, Tryz.ntmps95
  go_wp2
  try rw [Exit.noGoto_ret]
  go_ret
  exact ⟨rfl, rfl⟩
set_option maxRecDepth 100000 in
set_option maxHeartbeats 1000000 in
theorem hex_let (c : Nat) (w : World) (h : c < 256) (h1 : 97 ≤ c) (h2 : c ≤ 102) : Calls Tryz.prog 95 #[.int .u8 (c : Int)] w fun e w' => e = .returned (.int .i64 (hexv c)) ∧ w = w' := by
  have hv : hexv c = (c : Int) - 87 := by unfold hexv; rw [if_neg (by omega), if_pos ⟨h1, h2⟩]
  rw [hv]
  have q0 : (48 : Int) ≤ (c : Int) := by omega
  have q1 : ¬ (c : Int) ≤ 57 := by omega
  have q2 : (97 : Int) ≤ (c : Int) := by omega
  have q3 : (c : Int) ≤ 102 := by omega
  have q9 : (c : Int) - 97 + 10 = (c : Int) - 87 := by omega
  clear hv
  go_enter Tryz.func95, Tryz.ntmps95
  go_wp2
  try rw [Exit.noGoto_ret]
  go_ret
  exact ⟨rfl, rfl⟩
set_option maxRecDepth 100000 in
set_option maxHeartbeats 1000000 in
theorem hex_low (c : Nat) (w : World) (h : c < 256) (h1 : c < 48) : Calls Tryz.prog 95 #[.int .u8 (c : Int)] w fun e w' => e = .returned (.int .i64 (hexv c)) ∧ w = w' := by
  have hv : hexv c = -1 := by unfold hexv; rw [if_neg (by omega), if_neg (by omega)]
  rw [hv]
  have q0 : ¬ (48 : Int) ≤ (c : Int) := by omega
  have q1 : ¬ (97 : Int) ≤ (c : Int) := by omega
  clear hv
  go_enter Tryz.func95, Tryz.ntmps95
  go_wp2
  try rw [Exit.noGoto_ret]
  go_ret
  exact ⟨rfl, rfl⟩
set_option maxRecDepth 100000 in
set_option maxHeartbeats 1000000 in
theorem hex_mid (c : Nat) (w : World) (h : c < 256) (h1 : 57 < c) (h2 : c < 97) : Calls Tryz.prog 95 #[.int .u8 (c : Int)] w fun e w' => e = .returned (.int .i64 (hexv c)) ∧ w = w' := by
  have hv : hexv c = -1 := by unfold hexv; rw [if_neg (by omega), if_neg (by omega)]
  rw [hv]
  have q0 : (48 : Int) ≤ (c : Int) := by omega
  have q1 : ¬ (c : Int) ≤ 57 := by omega
  have q2 : ¬ (97 : Int) ≤ (c : Int) := by omega
  clear hv
  go_enter Tryz.func95, Tryz.ntmps95
  go_wp2
  try rw [Exit.noGoto_ret]
  go_ret
  exact ⟨rfl, rfl⟩
set_option maxRecDepth 100000 in
set_option maxHeartbeats 1000000 in
theorem hex_high (c : Nat) (w : World) (h : c < 256) (h1 : 102 < c) : Calls Tryz.prog 95 #[.int .u8 (c : Int)] w fun e w' => e = .returned (.int .i64 (hexv c)) ∧ w = w' := by
  have hv : hexv c = -1 := by unfold hexv; rw [if_neg (by omega), if_neg (by omega)]
  rw [hv]
  have q0 : (48 : Int) ≤ (c : Int) := by omega
  have q1 : ¬ (c : Int) ≤ 57 := by omega
  have q2 : (97 : Int) ≤ (c : Int) := by omega
  have q3 : ¬ (c : Int) ≤ 102 := by omega
  clear hv
  go_enter Tryz.func95, Tryz.ntmps95
  go_wp2
  try rw [Exit.noGoto_ret]
  go_ret
  exact ⟨rfl, rfl⟩
theorem hexd_ (c : Nat) (w : World) (h : c < 256) : Calls Tryz.prog 95 #[.int .u8 (c : Int)] w fun e w' => e = .returned (.int .i64 (hexv c)) ∧ w = w' := by
  rcases Nat.lt_or_ge c 48 with h1 | h1
  · exact hex_low c w h h1
  · rcases Nat.lt_or_ge 57 c with h2 | h2
    · rcases Nat.lt_or_ge c 97 with h3 | h3
      · exact hex_mid c w h h2 h3
      · rcases Nat.lt_or_ge 102 c with h4 | h4
        · exact hex_high c w h h4
        · exact hex_let c w h h3 h4
    · exact hex_dec c w h h1 h2
/-- a text of IPv4 is read: places filled, the number, is there one, the bytes -/
def four4 : List Nat → Nat → Nat → Bool → List Nat → List Nat × Bool
  | [], k, n, sm, B => if ¬ sm = true ∨ 255 < n ∨ 3 < k then (B, false) else (B.set k n, decide (k + 1 = 4))
  | c :: r, k, n, sm, B =>
    if c = 46 then (if ¬ sm = true ∨ 255 < n ∨ 3 < k then (B, false) else four4 r (k + 1) 0 false (B.set k n))
    else if c < 48 ∨ 57 < c ∨ 255 < n then (B, false)
    else four4 r k (10 * n + (c - 48)) true B
def zeroA : Ad := ⟨false, List.replicate 16 0⟩
theorem w64s {x : Int} (h0 : 0 ≤ x) (h1 : x < 4611686018427387904) : wrap64 x = x := by unfold wrap64; omega
theorem zeroA_cells : adc zeroA = [.bool false, .int .u8 0, .int .u8 0, .int .u8 0, .int .u8 0, .int .u8 0, .int .u8 0, .int .u8 0, .int .u8 0, .int .u8 0, .int .u8 0, .int .u8 0, .int .u8 0, .int .u8 0, .int .u8 0, .int .u8 0, .int .u8 0] := rfl
theorem adc_set (v : Bool) (B : List Nat) (k x : Nat) : adc ⟨v, B.set k x⟩ = (adc ⟨v, B⟩).set (1 + k) (.int .u8 (x : Int)) := by
  simp [adc, b8s, List.map_set, Nat.add_comm 1 k]
structure FI (w wr : World) (l : List Nat) (m : Nat) (R : List Nat × Bool) (i k n : Nat) (sm : Bool) (B : List Nat) : Prop where
  im : i ≤ m + 1
  k4 : k ≤ 4
  n9 : n ≤ 2600
  len : B.length = 16
  lt : ∀ x ∈ B, x < 256
  bq : Blk wr (w.heap.size + 1) 24 (adc ⟨false, B⟩)
  bp : Blk wr w.heap.size 24 (adc zeroA)
  keep : ∀ S, Keeps S w wr
  val : i ≤ m → four4 (l.drop i) k n sm B = R
  fin : i = m + 1 → (B, decide (k = 4)) = R
theorem FI.wf {w wr : World} {l : List Nat} {m : Nat} {R : List Nat × Bool} {i k n : Nat} {sm : Bool} {B : List Nat} (h : FI w wr l m R i k n sm B) : (⟨false, B⟩ : Ad).Wf := ⟨h.len, h.lt⟩
theorem FI.ret {w wr : World} {l : List Nat} {m : Nat} {R : List Nat × Bool} {i k n : Nat} {sm : Bool} {B : List Nat} (h : FI w wr l m R i k n sm B) :
    ((wr.rangeAt (w.heap.size + 1) 0 (adc ⟨false, B⟩)) ∧ wr.there w.heap.size 0 (adc ⟨false, B⟩).toArray.size) ∧ ((Tryz.prog.info? 24).map (·.size) = some (adc ⟨false, B⟩).length ∧ (Tryz.prog.info? 24).map (·.size) = some (adc ⟨false, B⟩).toArray.size) ∧ (adc ⟨false, B⟩).toArray.all (·.oneCell') = true ∧
    Blk (wr.setCells w.heap.size 0 (adc ⟨false, B⟩)) w.heap.size 24 (adc ⟨false, B⟩) ∧ ∀ S, Keeps S w (wr.setCells w.heap.size 0 (adc ⟨false, B⟩)) := by
  have hl : (adc ⟨false, B⟩).length = 17 := adc_len h.wf
  obtain ⟨t0, b9, k9⟩ := over_all (vs := adc ⟨false, B⟩) h.bp (by rw [hl]; rfl)
  refine ⟨⟨Blk.range h.bq, t0⟩, ⟨by rw [hl]; exact addr_info, by rw [List.size_toArray, hl]; exact addr_info⟩, all_oneCell_toArray (ad_one _), b9, fun S => ?_⟩
  have kk := h.keep S
  exact ⟨Nat.le_trans kk.size k9.size, fun x hx hs => by rw [k9.block x (Nat.lt_of_lt_of_le hx kk.size) (by omega), kk.block x hx hs], kk.same.trans k9.same⟩
/-- a number is put at its place -/
theorem FI.put {w wr : World} {l : List Nat} {m : Nat} {R : List Nat × Bool} {i k n : Nat} {sm : Bool} {B : List Nat} (h : FI w wr l m R i k n sm B) (hn : n ≤ 255) (hk : k ≤ 3) (hi : i ≤ m) (hv : i + 1 ≤ m → four4 (l.drop (i + 1)) (k + 1) 0 false (B.set k n) = R) (hf : i + 1 = m + 1 → (B.set k n, decide (k + 1 = 4)) = R) :
    FI w (wr.setCell ⟨w.heap.size + 1, 1 + k, none⟩ (.int .u8 (n : Int))) l m R (i + 1) (k + 1) 0 false (B.set k n) := by
  have kD : Keeps (· = w.heap.size + 1) wr (wr.setCell ⟨w.heap.size + 1, 1 + k, none⟩ (.int .u8 (n : Int))) := Keeps.here _
  refine ⟨by omega, by omega, by omega, by simp [h.len], fun x hx => ?_, ?_, Blk.keeps h.bp kD (by omega), fun S => ?_, hv, hf⟩
  · rcases List.mem_or_eq_of_mem_set hx with q | q
    · exact h.lt x q
    · omega
  · rw [adc_set]; exact h.bq.put (1 + k) (.int .u8 (n : Int))
  · have kk := h.keep S
    exact ⟨Nat.le_trans kk.size kD.size, fun x hx hs => by rw [kD.block x (Nat.lt_of_lt_of_le hx kk.size) (by omega), kk.block x hx hs], kk.same.trans kD.same⟩
theorem FI.cell {w wr : World} {l : List Nat} {m : Nat} {R : List Nat × Bool} {i k n : Nat} {sm : Bool} {B : List Nat} (h : FI w wr l m R i k n sm B) (hk : k ≤ 3) : wr.cell? ⟨w.heap.size + 1, 1 + k, none⟩ = some (.int .u8 ((byt ⟨false, B⟩ k : Nat) : Int)) ∧ wr.frozen? ⟨w.heap.size + 1, 1 + k, none⟩ = false :=
  ⟨ad_byt h.wf h.bq (by omega), h.bq.frozen _⟩
section
variable (w : World)
set_option maxRecDepth 100000 in
set_option maxHeartbeats 8000000 in
theorem four_ (l : List Nat) (hb : ∀ x ∈ l, x < 256) (hl : l.length < 140737488355328) : Calls Tryz.prog 58 #[.string (str l)] w fun e w' => e = .returned (.tuple #[av ⟨false, (four4 l 0 0 false (List.replicate 16 0)).1⟩, .bool (four4 l 0 0 false (List.replicate 16 0)).2]) ∧ ∀ S, Keeps S w w' := by
  obtain ⟨m, hm⟩ : ∃ m, m = l.length := ⟨_, rfl⟩
  obtain ⟨s, hs⟩ : ∃ s, s = str l := ⟨_, rfl⟩
  have hsz : (s.size : Int) = (m : Int) := by rw [hs, str_size, hm]
  obtain ⟨R, hR⟩ : ∃ R, R = four4 l 0 0 false (List.replicate 16 0) := ⟨_, rfl⟩
  obtain ⟨w1, hw1, K1, B1, B2⟩ := box_two w (adc zeroA) (adc zeroA) 24 24
  have HFI := Lib.hid (show FI w w1 l m R 0 0 0 false (List.replicate 16 0) from ⟨by omega, by omega, by omega, rfl, fun x hx => by have := (List.mem_replicate.1 hx).2; omega, B2, B1, K1, fun _ => by rw [List.drop_zero, hR], fun h => by omega⟩)
  rw [zeroA_cells] at hw1
  rw [← hs, ← hR]
  have HS := Lib.hid (show (∀ x ∈ l, x < 256) ∧ m = l.length ∧ s = str l ∧ m < 140737488355328 from ⟨hb, hm, hs, by omega⟩)
  have HW := Lib.hid hw1
  clear hb hl hm hs hR K1 B1 B2 hw1
  go_enter Tryz.func58, Tryz.ntmps58
  go_wp2_with fail
  rw [← HW.out]
  go_loopw [5, 6, 7, 8] (fun kv nv sv iv wr => ∃ (i k n : Nat) (sm : Bool) (B : List Nat), kv = .int .i64 (k : Int) ∧ nv = .int .i64 (n : Int) ∧ sv = .bool sm ∧ iv = .int .i64 (i : Int) ∧ FI w wr l m R i k n sm B) (fun _ _ _ i _ => m + 1 - (intOf i).toNat)
  case atStart => exact ⟨0, 0, 0, false, _, rfl, rfl, rfl, rfl, HFI.out⟩
  case round =>
    clear HFI HW
    obtain ⟨i, k, n, sm, B, rfl, rfl, rfl, rfl, hI⟩ := hrel
    have HI := Lib.hid hI
    have hm9 := HS.out.2.2.2
    have hi9 := hI.im
    have h3 : (0 : Int) ≤ (i : Int) := by omega
    have k0 : (0 : Int) ≤ (k : Int) := by omega
    have hk4 := hI.k4
    have hn9 := hI.n9
    clear hI
    by_cases him : i ≤ m
    · have him' : (i : Int) ≤ (m : Int) := by omega
      by_cases hie : i = m
      · subst hie
        have HDR := Lib.hid (show l.drop i = [] from by rw [HS.out.2.1, List.drop_length])
        cases sm
        · have hr := HI.out.ret
          have HLq := Lib.hid hr.1
          have HSC := Lib.hid hr.2.1
          have HOC := Lib.hid hr.2.2.1
          have B9 := Lib.hid hr.2.2.2.1
          have K9 : Hid (∀ S, Keeps S w (wr.setCells w.heap.size 0 (adc ⟨false, B⟩))) := Lib.hid hr.2.2.2.2
          have HV := Lib.hid (show R = (B, false) from by
            have := HI.out.val (Nat.le_refl _); rw [HDR.out, four4] at this; rw [← this]; rw [if_pos (.inl (by simp))])
          clear hr hm9 hi9 hk4 hn9
          generalize hC : adc ⟨false, B⟩ = C at *
          go_wp2_with (first
            | (refine wpList_load_mid rfl 24 _ rfl (w.heap.size + 1) 0 rfl C _ HLq.out.1 Tryz.underlying24 rfl HSC.out.1 ?_)
            | (refine wpList_store_mid rfl 24 _ _ rfl w.heap.size 0 C.toArray rfl rfl HLq.out.2 HSC.out.2 HOC.out ?_))
          try rw [Exit.noGoto_ret]
          refine bodyPost_ret (wh.ret_cell (p := 2) (u := 3) (ty := 24) (by kernel_rfl) _ _ _ w.heap.size _ _ _ (by rfl) B9.out Tryz.underlying24 rfl HSC.out.1) rfl ?_
          exact ⟨by rw [HV.out]; unfold av; rw [hC]; rfl, K9.out⟩
        · by_cases hn : 255 < n
          · have hn' : (255 : Int) < (n : Int) := by omega
            have hr := HI.out.ret
            have HLq := Lib.hid hr.1
            have HSC := Lib.hid hr.2.1
            have HOC := Lib.hid hr.2.2.1
            have B9 := Lib.hid hr.2.2.2.1
            have K9 : Hid (∀ S, Keeps S w (wr.setCells w.heap.size 0 (adc ⟨false, B⟩))) := Lib.hid hr.2.2.2.2
            have HV := Lib.hid (show R = (B, false) from by
              have := HI.out.val (Nat.le_refl _); rw [HDR.out, four4] at this; rw [← this]; rw [if_pos (.inr (.inl hn))])
            clear hr hm9 hi9 hk4 hn9
            generalize hC : adc ⟨false, B⟩ = C at *
            go_wp2_with (first
              | (refine wpList_load_mid rfl 24 _ rfl (w.heap.size + 1) 0 rfl C _ HLq.out.1 Tryz.underlying24 rfl HSC.out.1 ?_)
              | (refine wpList_store_mid rfl 24 _ _ rfl w.heap.size 0 C.toArray rfl rfl HLq.out.2 HSC.out.2 HOC.out ?_))
            try rw [Exit.noGoto_ret]
            refine bodyPost_ret (wh.ret_cell (p := 2) (u := 3) (ty := 24) (by kernel_rfl) _ _ _ w.heap.size _ _ _ (by rfl) B9.out Tryz.underlying24 rfl HSC.out.1) rfl ?_
            exact ⟨by rw [HV.out]; unfold av; rw [hC]; rfl, K9.out⟩
          · have hn' : ¬ (255 : Int) < (n : Int) := by omega
            by_cases hk : 3 < k
            · have hk' : (3 : Int) < (k : Int) := by omega
              have hr := HI.out.ret
              have HLq := Lib.hid hr.1
              have HSC := Lib.hid hr.2.1
              have HOC := Lib.hid hr.2.2.1
              have B9 := Lib.hid hr.2.2.2.1
              have K9 : Hid (∀ S, Keeps S w (wr.setCells w.heap.size 0 (adc ⟨false, B⟩))) := Lib.hid hr.2.2.2.2
              have HV := Lib.hid (show R = (B, false) from by
                have := HI.out.val (Nat.le_refl _); rw [HDR.out, four4] at this; rw [← this]; rw [if_pos (.inr (.inr hk))])
              clear hr hm9 hi9 hk4 hn9
              generalize hC : adc ⟨false, B⟩ = C at *
              go_wp2_with (first
                | (refine wpList_load_mid rfl 24 _ rfl (w.heap.size + 1) 0 rfl C _ HLq.out.1 Tryz.underlying24 rfl HSC.out.1 ?_)
                | (refine wpList_store_mid rfl 24 _ _ rfl w.heap.size 0 C.toArray rfl rfl HLq.out.2 HSC.out.2 HOC.out ?_))
              try rw [Exit.noGoto_ret]
              refine bodyPost_ret (wh.ret_cell (p := 2) (u := 3) (ty := 24) (by kernel_rfl) _ _ _ w.heap.size _ _ _ (by rfl) B9.out Tryz.underlying24 rfl HSC.out.1) rfl ?_
              exact ⟨by rw [HV.out]; unfold av; rw [hC]; rfl, K9.out⟩
            · have hk' : ¬ (3 : Int) < (k : Int) := by omega
              have k16 : (k : Int) < 16 := by omega
              have hcl := HI.out.cell (by omega)
              have f1 := hcl.2
              have f2 := hcl.1
              have hu8 : IntKind.u8.wrap (n : Int) = (n : Int) := by rw [show IntKind.u8.wrap (n : Int) = (n : Int) % 256 from rfl]; omega
              have NX := Lib.hid (HI.out.put (by omega) (by omega) (by omega) (fun h => by
                omega) (fun h => by
                have := HI.out.val (Nat.le_refl _); rw [HDR.out, four4, if_neg (by simp; omega)] at this; exact this))
              clear hcl hn hk
              go_wp2_with fail
              go_roundw
              case rel => exact ⟨i + 1, k + 1, 0, false, B.set k n, by first | rfl | go_num, rfl, rfl, by first | rfl | go_num, NX.out⟩
              case measure => simp [intOf] <;> omega
      · have hie' : ¬ (i : Int) = (m : Int) := by omega
        have hie2 : ((i : Int) == (m : Int)) = false := by rw [beq_eq_false_iff_ne]; exact hie'
        have hlt : (i : Int) < (m : Int) := by omega
        have hsn : i < s.size := by omega
        obtain ⟨c, hc⟩ : ∃ c, l[i]? = some c := ⟨_, List.getElem?_eq_getElem (by have := HS.out.2.1; omega)⟩
        have hc256 := HS.out.1 c (List.mem_of_getElem? hc)
        have hch := fun h => str_get hc hc256 s HS.out.2.2.1 h
        have HDR := Lib.hid (show l.drop i = c :: l.drop (i + 1) from by
          obtain ⟨h1, h2⟩ := List.getElem?_eq_some_iff.1 hc
          rw [← h2]; exact List.drop_eq_getElem_cons h1)
        clear hc
        by_cases hc46 : c = 46
        · subst hc46
          cases sm
          · have hr := HI.out.ret
            have HLq := Lib.hid hr.1
            have HSC := Lib.hid hr.2.1
            have HOC := Lib.hid hr.2.2.1
            have B9 := Lib.hid hr.2.2.2.1
            have K9 : Hid (∀ S, Keeps S w (wr.setCells w.heap.size 0 (adc ⟨false, B⟩))) := Lib.hid hr.2.2.2.2
            have HV := Lib.hid (show R = (B, false) from by
              have := HI.out.val (by omega); rw [HDR.out, four4, if_pos rfl] at this; rw [← this]; rw [if_pos (.inl (by simp))])
            clear hr hm9 hi9 hk4 hn9
            generalize hC : adc ⟨false, B⟩ = C at *
            go_wp2_with (first
              | (refine wpList_load_mid rfl 24 _ rfl (w.heap.size + 1) 0 rfl C _ HLq.out.1 Tryz.underlying24 rfl HSC.out.1 ?_)
              | (refine wpList_store_mid rfl 24 _ _ rfl w.heap.size 0 C.toArray rfl rfl HLq.out.2 HSC.out.2 HOC.out ?_))
            try rw [Exit.noGoto_ret]
            refine bodyPost_ret (wh.ret_cell (p := 2) (u := 3) (ty := 24) (by kernel_rfl) _ _ _ w.heap.size _ _ _ (by rfl) B9.out Tryz.underlying24 rfl HSC.out.1) rfl ?_
            exact ⟨by rw [HV.out]; unfold av; rw [hC]; rfl, K9.out⟩
          · by_cases hn : 255 < n
            · have hn' : (255 : Int) < (n : Int) := by omega
              have hr := HI.out.ret
              have HLq := Lib.hid hr.1
              have HSC := Lib.hid hr.2.1
              have HOC := Lib.hid hr.2.2.1
              have B9 := Lib.hid hr.2.2.2.1
              have K9 : Hid (∀ S, Keeps S w (wr.setCells w.heap.size 0 (adc ⟨false, B⟩))) := Lib.hid hr.2.2.2.2
              have HV := Lib.hid (show R = (B, false) from by
                have := HI.out.val (by omega); rw [HDR.out, four4, if_pos rfl] at this; rw [← this]; rw [if_pos (.inr (.inl hn))])
              clear hr hm9 hi9 hk4 hn9
              generalize hC : adc ⟨false, B⟩ = C at *
              go_wp2_with (first
                | (refine wpList_load_mid rfl 24 _ rfl (w.heap.size + 1) 0 rfl C _ HLq.out.1 Tryz.underlying24 rfl HSC.out.1 ?_)
                | (refine wpList_store_mid rfl 24 _ _ rfl w.heap.size 0 C.toArray rfl rfl HLq.out.2 HSC.out.2 HOC.out ?_))
              try rw [Exit.noGoto_ret]
              refine bodyPost_ret (wh.ret_cell (p := 2) (u := 3) (ty := 24) (by kernel_rfl) _ _ _ w.heap.size _ _ _ (by rfl) B9.out Tryz.underlying24 rfl HSC.out.1) rfl ?_
              exact ⟨by rw [HV.out]; unfold av; rw [hC]; rfl, K9.out⟩
            · have hn' : ¬ (255 : Int) < (n : Int) := by omega
              by_cases hk : 3 < k
              · have hk' : (3 : Int) < (k : Int) := by omega
                have hr := HI.out.ret
                have HLq := Lib.hid hr.1
                have HSC := Lib.hid hr.2.1
                have HOC := Lib.hid hr.2.2.1
                have B9 := Lib.hid hr.2.2.2.1
                have K9 : Hid (∀ S, Keeps S w (wr.setCells w.heap.size 0 (adc ⟨false, B⟩))) := Lib.hid hr.2.2.2.2
                have HV := Lib.hid (show R = (B, false) from by
                  have := HI.out.val (by omega); rw [HDR.out, four4, if_pos rfl] at this; rw [← this]; rw [if_pos (.inr (.inr hk))])
                clear hr hm9 hi9 hk4 hn9
                generalize hC : adc ⟨false, B⟩ = C at *
                go_wp2_with (first
                  | (refine wpList_load_mid rfl 24 _ rfl (w.heap.size + 1) 0 rfl C _ HLq.out.1 Tryz.underlying24 rfl HSC.out.1 ?_)
                  | (refine wpList_store_mid rfl 24 _ _ rfl w.heap.size 0 C.toArray rfl rfl HLq.out.2 HSC.out.2 HOC.out ?_))
                try rw [Exit.noGoto_ret]
                refine bodyPost_ret (wh.ret_cell (p := 2) (u := 3) (ty := 24) (by kernel_rfl) _ _ _ w.heap.size _ _ _ (by rfl) B9.out Tryz.underlying24 rfl HSC.out.1) rfl ?_
                exact ⟨by rw [HV.out]; unfold av; rw [hC]; rfl, K9.out⟩
              · have hk' : ¬ (3 : Int) < (k : Int) := by omega
                have k16 : (k : Int) < 16 := by omega
                have hcl := HI.out.cell (by omega)
                have f1 := hcl.2
                have f2 := hcl.1
                have hu8 : IntKind.u8.wrap (n : Int) = (n : Int) := by rw [show IntKind.u8.wrap (n : Int) = (n : Int) % 256 from rfl]; omega
                have NX := Lib.hid (HI.out.put (by omega) (by omega) (by omega) (fun h => by
                  have := HI.out.val (by omega); rw [HDR.out, four4, if_pos rfl, if_neg (by simp; omega)] at this; exact this) (fun h => by
                  omega))
                clear hcl hn hk
                go_wp2_with fail
                go_roundw
                case rel => exact ⟨i + 1, k + 1, 0, false, B.set k n, by first | rfl | go_num, rfl, rfl, by first | rfl | go_num, NX.out⟩
                case measure => simp [intOf] <;> omega
        · have hc46' : ((c : Int) == 46) = false := by rw [beq_eq_false_iff_ne]; omega
          by_cases hc48 : c < 48
          · have hc48' : (c : Int) < 48 := by omega
            have hr := HI.out.ret
            have HLq := Lib.hid hr.1
            have HSC := Lib.hid hr.2.1
            have HOC := Lib.hid hr.2.2.1
            have B9 := Lib.hid hr.2.2.2.1
            have K9 : Hid (∀ S, Keeps S w (wr.setCells w.heap.size 0 (adc ⟨false, B⟩))) := Lib.hid hr.2.2.2.2
            have HV := Lib.hid (show R = (B, false) from by
              have := HI.out.val (by omega); rw [HDR.out, four4, if_neg hc46] at this; rw [← this]; rw [if_pos (.inl hc48)])
            clear hr hm9 hi9 hk4 hn9
            generalize hC : adc ⟨false, B⟩ = C at *
            go_wp2_with (first
              | (refine wpList_load_mid rfl 24 _ rfl (w.heap.size + 1) 0 rfl C _ HLq.out.1 Tryz.underlying24 rfl HSC.out.1 ?_)
              | (refine wpList_store_mid rfl 24 _ _ rfl w.heap.size 0 C.toArray rfl rfl HLq.out.2 HSC.out.2 HOC.out ?_))
            try rw [Exit.noGoto_ret]
            refine bodyPost_ret (wh.ret_cell (p := 2) (u := 3) (ty := 24) (by kernel_rfl) _ _ _ w.heap.size _ _ _ (by rfl) B9.out Tryz.underlying24 rfl HSC.out.1) rfl ?_
            exact ⟨by rw [HV.out]; unfold av; rw [hC]; rfl, K9.out⟩
          · have hc48' : ¬ (c : Int) < 48 := by omega
            by_cases hc57 : 57 < c
            · have hc57' : (57 : Int) < (c : Int) := by omega
              have hr := HI.out.ret
              have HLq := Lib.hid hr.1
              have HSC := Lib.hid hr.2.1
              have HOC := Lib.hid hr.2.2.1
              have B9 := Lib.hid hr.2.2.2.1
              have K9 : Hid (∀ S, Keeps S w (wr.setCells w.heap.size 0 (adc ⟨false, B⟩))) := Lib.hid hr.2.2.2.2
              have HV := Lib.hid (show R = (B, false) from by
                have := HI.out.val (by omega); rw [HDR.out, four4, if_neg hc46] at this; rw [← this]; rw [if_pos (.inr (.inl hc57))])
              clear hr hm9 hi9 hk4 hn9
              generalize hC : adc ⟨false, B⟩ = C at *
              go_wp2_with (first
                | (refine wpList_load_mid rfl 24 _ rfl (w.heap.size + 1) 0 rfl C _ HLq.out.1 Tryz.underlying24 rfl HSC.out.1 ?_)
                | (refine wpList_store_mid rfl 24 _ _ rfl w.heap.size 0 C.toArray rfl rfl HLq.out.2 HSC.out.2 HOC.out ?_))
              try rw [Exit.noGoto_ret]
              refine bodyPost_ret (wh.ret_cell (p := 2) (u := 3) (ty := 24) (by kernel_rfl) _ _ _ w.heap.size _ _ _ (by rfl) B9.out Tryz.underlying24 rfl HSC.out.1) rfl ?_
              exact ⟨by rw [HV.out]; unfold av; rw [hC]; rfl, K9.out⟩
            · have hc57' : ¬ (57 : Int) < (c : Int) := by omega
              by_cases hn : 255 < n
              · have hn' : (255 : Int) < (n : Int) := by omega
                have hr := HI.out.ret
                have HLq := Lib.hid hr.1
                have HSC := Lib.hid hr.2.1
                have HOC := Lib.hid hr.2.2.1
                have B9 := Lib.hid hr.2.2.2.1
                have K9 : Hid (∀ S, Keeps S w (wr.setCells w.heap.size 0 (adc ⟨false, B⟩))) := Lib.hid hr.2.2.2.2
                have HV := Lib.hid (show R = (B, false) from by
                  have := HI.out.val (by omega); rw [HDR.out, four4, if_neg hc46] at this; rw [← this]; rw [if_pos (.inr (.inr hn))])
                clear hr hm9 hi9 hk4 hn9
                generalize hC : adc ⟨false, B⟩ = C at *
                go_wp2_with (first
                  | (refine wpList_load_mid rfl 24 _ rfl (w.heap.size + 1) 0 rfl C _ HLq.out.1 Tryz.underlying24 rfl HSC.out.1 ?_)
                  | (refine wpList_store_mid rfl 24 _ _ rfl w.heap.size 0 C.toArray rfl rfl HLq.out.2 HSC.out.2 HOC.out ?_))
                try rw [Exit.noGoto_ret]
                refine bodyPost_ret (wh.ret_cell (p := 2) (u := 3) (ty := 24) (by kernel_rfl) _ _ _ w.heap.size _ _ _ (by rfl) B9.out Tryz.underlying24 rfl HSC.out.1) rfl ?_
                exact ⟨by rw [HV.out]; unfold av; rw [hC]; rfl, K9.out⟩
              · have hn' : ¬ (255 : Int) < (n : Int) := by omega
                obtain ⟨n2, hn2⟩ : ∃ n2, n2 = 10 * n + (c - 48) := ⟨_, rfl⟩
                have e1 : IntKind.u8.wrap ((c : Int) - 48) = (c : Int) - 48 := by rw [show IntKind.u8.wrap ((c : Int) - 48) = ((c : Int) - 48) % 256 from rfl]; omega
                have e2 : wrap64 (wrap64 (10 * (n : Int)) + ((c : Int) - 48)) = (n2 : Int) := by rw [w64s (x := 10 * (n : Int)) (by omega) (by omega), w64s (by omega) (by omega)]; omega
                have e3 : IntKind.i64.wrap ((c : Int) - 48) = (c : Int) - 48 := by rw [IntKind.wrap_i64]; omega
                have NX := Lib.hid (show FI w wr l m R (i + 1) k n2 true B from ⟨by omega, hk4, by omega, HI.out.len, HI.out.lt, HI.out.bq, HI.out.bp, HI.out.keep, fun h => by
                  have := HI.out.val (by omega)
                  rw [HDR.out, four4, if_neg hc46, if_neg (by omega), ← hn2] at this
                  exact this, fun h => by omega⟩)
                have HN2 := Lib.hid hn2
                clear hn2
                go_wp2_with fail
                go_roundw
                case rel => exact ⟨i + 1, k, n2, true, B, rfl, by first | rfl | (have := HN2.out; go_num), rfl, by first | rfl | go_num, NX.out⟩
                case measure => simp [intOf] <;> omega
    · obtain rfl : i = m + 1 := by omega
      have him' : ¬ (((m + 1 : Nat)) : Int) ≤ (m : Int) := by omega
      have HKE := Lib.hid (show ((k : Int) == 4) = decide (k = 4) from by rw [Bool.eq_iff_iff, beq_iff_eq, decide_eq_true_eq]; omega)
      have hr := HI.out.ret
      have HLq := Lib.hid hr.1
      have HSC := Lib.hid hr.2.1
      have HOC := Lib.hid hr.2.2.1
      have B9 := Lib.hid hr.2.2.2.1
      have K9 : Hid (∀ S, Keeps S w (wr.setCells w.heap.size 0 (adc ⟨false, B⟩))) := Lib.hid hr.2.2.2.2
      have HV := Lib.hid (show R = (B, decide (k = 4)) from by
        exact (HI.out.fin rfl).symm)
      clear hr hm9 hi9 hk4 hn9
      generalize hC : adc ⟨false, B⟩ = C at *
      go_wp2_with (first
        | (refine wpList_load_mid rfl 24 _ rfl (w.heap.size + 1) 0 rfl C _ HLq.out.1 Tryz.underlying24 rfl HSC.out.1 ?_)
        | (refine wpList_store_mid rfl 24 _ _ rfl w.heap.size 0 C.toArray rfl rfl HLq.out.2 HSC.out.2 HOC.out ?_))
      try rw [Exit.noGoto_ret]
      refine bodyPost_ret (wh.ret_cell (p := 2) (u := 3) (ty := 24) (by kernel_rfl) _ _ _ w.heap.size _ _ _ (by rfl) B9.out Tryz.underlying24 rfl HSC.out.1) rfl ?_
      exact ⟨by rw [HV.out]; unfold av; rw [hC]; exact congrArg (fun z => Ending.returned (.tuple #[.agg C.toArray, .bool z])) HKE.out, K9.out⟩
end
end Go.Proofs.YtgcdhfpbmcfedaaGreatDoor.pf
end
section
namespace Go.Proofs.YtgcdhfpbmcfedaaGreatDoor.oc
open Go.RowKit Go.Proofs.YtgcdhfpbmcfedaaGreatDoor.mz
/-- v shows the elements xs, in a block of the call's own, from wherever in it -/
def Que (w : World) (base : Nat) (e : TypeId) (v : Value) (xs : List Value) : Prop :=
  (v = .slice none 0 0 ∧ xs = []) ∨
  ∃ g off cap cs, v = .slice (some ⟨g, off, none⟩) xs.length cap ∧ base ≤ g ∧ Blk w g e cs ∧ xs.length ≤ cap ∧ off + cap ≤ cs.length ∧ ∀ k u, xs[k]? = some u → cs[off + k]? = some u
section
variable {P : Program} {w w' : World} {base : Nat} {e : TypeId} {v : Value} {xs : List Value}
theorem Que.nil_ (w : World) (base : Nat) (e : TypeId) : Que w base e (.slice none 0 0) [] := .inl ⟨rfl, rfl⟩
theorem Que.form (h : Que w base e v xs) : ∃ A c, v = .slice A xs.length c := by
  rcases h with ⟨rfl, rfl⟩ | ⟨g, off, cap, cs, rfl, _⟩
  · exact ⟨none, 0, rfl⟩
  · exact ⟨_, _, rfl⟩
theorem Que.lt (h : Que w base e v xs) {b : Nat} (hb : v.ownBlock = some b) : base ≤ b ∧ b < w.heap.size := by
  rcases h with ⟨rfl, _⟩ | ⟨g, off, cap, cs, rfl, h1, h2, _⟩
  · simp [Value.ownBlock] at hb
  · simp [Value.ownBlock] at hb
    subst hb
    exact ⟨h1, h2.lt⟩
theorem Que.keeps {S : Nat → Prop} (h : Que w base e v xs) (k : Keeps S w w') (hs : ∀ b, v.ownBlock = some b → ¬ S b) : Que w' base e v xs := by
  rcases h with h | ⟨g, off, cap, cs, rfl, h1, h2, h3⟩
  · exact .inl h
  · exact .inr ⟨g, off, cap, cs, rfl, h1, Blk.keeps h2 k (hs g rfl), h3⟩
theorem Que.alloc (h : Que w base e v xs) (o : Obj) : Que (w.alloc o) base e v xs := h.keeps ((Keeps.refl (fun _ => False) w).alloc o) (fun _ _ z => z)
/-- the front, and what is behind it -/
theorem Que.front {A : Option Addr} {n c : Nat} {x : Value} {r : List Value} (h : Que w base e (.slice A n c) (x :: r)) :
    ∃ b o, A = some ⟨b, o, none⟩ ∧ n = r.length + 1 ∧ n ≤ c ∧ w.cell? ⟨b, o, none⟩ = some x ∧ Que w base e (.slice (if c = 1 then A else A.map (·.add 1)) r.length (c - 1)) r := by
  rcases h with ⟨_, h⟩ | ⟨g, off, cap, cs, he, h1, h2, h3, h4, h5⟩
  · cases h
  · injection he with ha hn hc
    subst ha; subst hn; subst hc
    simp only [List.length_cons] at h3
    refine ⟨g, off, rfl, by simp, by simpa using h3, by rw [h2.cell]; exact h5 0 x rfl, .inr ?_⟩
    by_cases h6 : c = 1
    · subst h6
      have hr : r = [] := List.eq_nil_of_length_eq_zero (by omega)
      subst hr
      exact ⟨g, off, 0, cs, by simp, h1, h2, by simp, by omega, fun k u hk => by simp at hk⟩
    · refine ⟨g, off + 1, c - 1, cs, by simp [h6, Addr.add_lit], h1, h2, by omega, by omega, fun k u hk => ?_⟩
      have := h5 (k + 1) u (by simpa using hk)
      rwa [show off + (k + 1) = off + 1 + k from by omega] at this
theorem Que.run_append (t ty : TypeId) (i : TypeInfo) (z : Value) (bytes : Nat) (ht : P.underlying t = some (.slice e)) (hi : P.info? e = some i) (hz : i.zero = some z)
    (hsize : i.size = 1) (hby : i.bytes = bytes) (hzs : z.cells.size = 1) (h : Que w base e v xs) (ad : Addr) (c : Nat) (u : Value) (hu : w.cell? ad = some u) (h1 : u.oneCell' = true)
    (hn : xs.length + 1 ≤ maxLen) (hb : (xs.length + 1) * bytes ≤ 140737488355328) (hbase : base ≤ w.heap.size) :
    ∃ v' w', (Builtin.append_ #[t, t] ty #[v, .slice (some ad) 1 c]).run P w = .ok v' w' ∧ Que w' base e v' (xs ++ [u]) ∧ w.grownBy w' v.ownBlock ∧ (v'.ownBlock = v.ownBlock ∨ v'.ownBlock = some w.heap.size) := by
  subst hby
  have hnews : ∀ j y, [u][j]? = some y → w.cell? (ad.add j) = some y := fun j y hj => by
    rcases j with _ | j
    · simp at hj; subst hj; simp [Addr.add, hu]
    · simp at hj
  have h1' : ∀ y ∈ [u], y.oneCell' = true := fun y hy => by simp at hy; subst hy; exact h1
  have hl : [u].length = 1 * i.size := by rw [hsize]; rfl
  have hmx : maxLen ≤ 9223372036854775807 := by unfold maxLen; omega
  rcases h with ⟨rfl, rfl⟩ | ⟨g, off, cap, cs, rfl, hg, hblk, hc1, hc2, hc3⟩
  · have hr := run_append_nil (P := P) w t ty e i z ht hi hz ad 1 c [u] hl hnews (by omega) (by omega) (by simp only [List.length_nil] at hb; omega)
    refine ⟨_, _, hr, .inr ⟨w.heap.size, 0, grownCap w 1 0 e, ([u].toArray ++ Builtin.zeroCells z.cells (grownCap w 1 0 e - 1)).toList, rfl, hbase, ?_, ?_, ?_, ?_⟩, ?_, .inr rfl⟩
    · exact Blk.new w.drew e _
    · exact grownCap_ge w 1 0 e
    · have := grownCap_ge w 1 0 e
      simp [size_zeroCells, hzs]
      omega
    · intro k y hk
      rcases k with _ | k
      · simpa using hk
      · simp at hk
    · exact ⟨rfl, rfl, rfl, by simp, fun k hk _ => heap_alloc_old w.drew _ hk⟩
  · by_cases hroom : xs.length + 1 ≤ cap
    · have hr := run_append_room_src (P := P) w t t ty e i ht hi g off xs.length cap (.slice (some ad) 1 c) 1 [u] (Src.ofSlice w ht ad 1 c [u] hl hnews h1') hroom
        (fun j hj => by simp at hj; subst hj; rw [hblk.cell, hsize, List.getElem?_eq_getElem (by omega)]; rfl) (fun j hj => hblk.frozen _)
      rw [hsize] at hr
      refine ⟨_, _, hr, .inr ⟨g, off, cap, cs.set (off + xs.length) u, by simp, hg, ?_, by simpa using hroom, by simpa using hc2, ?_⟩, ?_, .inl rfl⟩
      · have := hblk.put (off + xs.length) u
        simpa [World.setCells] using this
      · intro k y hk
        rcases Nat.lt_trichotomy k xs.length with q | q | q
        · rw [List.getElem?_append_left q] at hk
          rw [List.getElem?_set_ne (by omega)]
          exact hc3 k y hk
        · subst q
          simp at hk
          subst hk
          rw [List.getElem?_set_self (by omega)]
        · rw [List.getElem?_append_right (by omega)] at hk
          rw [List.getElem?_eq_none (by simp; omega)] at hk
          cases hk
      · refine ⟨rfl, rfl, rfl, by simp [World.setCells], fun k _ hk => ?_⟩
        have hne : k ≠ g := fun e => hk (by simp [Value.ownBlock, e])
        exact Below.heap_setCell w ⟨g, off + xs.length * 1, none⟩ u k hne
    · have holds : ∀ j y, xs[j]? = some y → w.cell? ((⟨g, off, none⟩ : Addr).add j) = some y := fun j y hj => by
        rw [Addr.add_lit, hblk.cell]; exact hc3 j y hj
      have hr := run_append_grow (P := P) w t ty e i z ht hi hz ⟨g, off, none⟩ xs.length cap xs (by rw [hsize]; omega) holds ad 1 c [u] hl hnews (by omega) (by omega) (growslice_fits (by omega) hb)
      refine ⟨_, _, hr, .inr ⟨w.heap.size, 0, grownCap w (xs.length + 1) cap e, (xs.toArray ++ [u].toArray ++ Builtin.zeroCells z.cells (grownCap w (xs.length + 1) cap e - (xs.length + 1))).toList, by simp, hbase, ?_, ?_, ?_, ?_⟩, ?_, .inr rfl⟩
      · exact Blk.new w.drew e _
      · have := grownCap_ge w (xs.length + 1) cap e
        simpa using this
      · have := grownCap_ge w (xs.length + 1) cap e
        simp [size_zeroCells, hzs]
        omega
      · intro k y hk
        have hl2 := (List.getElem?_eq_some_iff.1 hk).1
        simp only [Nat.zero_add, Array.toList_append]
        rw [List.getElem?_append_left (by simpa using hl2)]
        simpa using hk
      · exact ⟨rfl, rfl, rfl, by simp, fun k hk _ => heap_alloc_old w.drew _ hk⟩
theorem Que.wp_append {o : Oper} {a : Act} {K : Act → World → Prop} {Q : Exit → Act → World → Prop} (s x : Operand) (t : TypeId)
    (ho : o.op = .call { callee := .builtin .append, args := #[s, x], argTypes := #[t, t] }) (i : TypeInfo) (z : Value) (bytes : Nat) (ht : P.underlying t = some (.slice e)) (hi : P.info? e = some i) (hz : i.zero = some z)
    (hsize : i.size = 1) (hby : i.bytes = bytes) (hzs : z.cells.size = 1) (hs : a.eval s = v) (h : Que w base e v xs) (ad : Addr) (c : Nat) (u : Value) (hx : a.eval x = .slice (some ad) 1 c) (hu : w.cell? ad = some u) (h1 : u.oneCell' = true)
    (hn : xs.length + 1 ≤ maxLen) (hb : (xs.length + 1) * bytes ≤ 140737488355328) (hbase : base ≤ w.heap.size)
    (hk : ∀ v' w', Que w' base e v' (xs ++ [u]) → w.grownBy w' v.ownBlock → (v'.ownBlock = v.ownBlock ∨ v'.ownBlock = some w.heap.size) → K (a.put o.dst v') w') : o.wp P a w K Q := by
  obtain ⟨v', w', hr, h2, h3, h4⟩ := Que.run_append (P := P) t o.type i z bytes ht hi hz hsize hby hzs h ad c u hu h1 hn hb hbase
  unfold Oper.wp execOp
  simp only [ho, resolve, invoke, builtin, Sem.run_bind, Sem.run_pure, Result.andThen_ok, List.map_toArray, List.map_cons, List.map_nil, hs, hx, hr]
  exact hk v' w' h2 h3 h4
theorem Que.wpList_append {ops : Array Oper} {rest : List Oper} {o : Oper} {a : Act} {Q : Exit → Act → World → Prop} (hgd : o.guard = none) (s x : Operand) (t : TypeId)
    (ho : o.op = .call { callee := .builtin .append, args := #[s, x], argTypes := #[t, t] }) (i : TypeInfo) (z : Value) (bytes : Nat) (ht : P.underlying t = some (.slice e)) (hi : P.info? e = some i) (hz : i.zero = some z)
    (hsize : i.size = 1) (hby : i.bytes = bytes) (hzs : z.cells.size = 1) (hs : a.eval s = v) (h : Que w base e v xs) (ad : Addr) (c : Nat) (u : Value) (hx : a.eval x = .slice (some ad) 1 c) (hu : w.cell? ad = some u) (h1 : u.oneCell' = true)
    (hn : xs.length + 1 ≤ maxLen) (hb : (xs.length + 1) * bytes ≤ 140737488355328) (hbase : base ≤ w.heap.size)
    (hk : ∀ v' w', Que w' base e v' (xs ++ [u]) → w.grownBy w' v.ownBlock → (v'.ownBlock = v.ownBlock ∨ v'.ownBlock = some w.heap.size) → wpList P ops Q rest (a.put o.dst v') w') : wpList P ops Q (o :: rest) a w :=
  wpList_plain hgd fun _ hK => Que.wp_append s x t ho i z bytes ht hi hz hsize hby hzs hs h ad c u hx hu h1 hn hb hbase fun v' w' h2 h3 h4 => hK _ _ (hk v' w' h2 h3 h4)
end
end Go.Proofs.YtgcdhfpbmcfedaaGreatDoor.oc
end
section
set_option linter.unusedVariables false
set_option linter.unusedSimpArgs false
namespace Go.Proofs.YtgcdhfpbmcfedaaGreatDoor.pf
open Go.RowKit Go.Proofs.YtgcdhfpbmcfedaaGreatDoor.oc Go.Proofs.YtgcdhfpbmcfedaaGreatDoor.mz Go.Proofs.YtgcdhfpbmcfedaaGreatDoor.wh
def i64s (l : List Nat) : List Value := l.map (fun (x : Nat) => Value.int .i64 (x : Int))
theorem i64s_len (l : List Nat) : (i64s l).length = l.length := by simp [i64s]
theorem int_info : (Tryz.prog.info? 3).map (fun i => (i.zero, i.size, i.bytes)) = some (some (.int .i64 0), 1, 8) := by kernel_rfl
theorem hexv_lt (c : Nat) : hexv c < 16 ∧ -1 ≤ hexv c := by unfold hexv; split <;> (try split) <;> omega
/-- a text of numbers between colons is read: the number, its digits, what stands behind -/
def numsF : List Nat → Nat → Nat → List Nat → List Nat × Bool
  | [], n, c, o => if c = 0 ∨ 4 < c ∨ o.length = 8 then ([], false) else (o ++ [n], true)
  | x :: r, n, c, o =>
    if x = 58 then (if c = 0 ∨ 4 < c ∨ o.length = 8 then ([], false) else numsF r 0 0 (o ++ [n]))
    else if hexv x < 0 ∨ 4 < c then ([], false)
    else numsF r (16 * n + (hexv x).toNat) (c + 1) o
def nums (l : List Nat) : List Nat × Bool := if l = [] then ([], true) else numsF l 0 0 []
structure NI (w wr : World) (l : List Nat) (m : Nat) (R : List Nat × Bool) (i n c : Nat) (o : List Nat) (v : Value) : Prop where
  im : i ≤ m + 1
  c5 : c ≤ 5
  np : n < 16 ^ c
  o8 : o.length ≤ 8
  os : ∀ x ∈ o, x < 65536
  q : Que wr w.heap.size 3 v (i64s o)
  keep : ∀ S, Keeps S w wr
  val : i ≤ m → numsF (l.drop i) n c o = R
  fin : i = m + 1 → (o, true) = R
theorem pow16 {c : Nat} (h : c ≤ 4) : 16 ^ c ≤ 65536 := Nat.le_trans (Nat.pow_le_pow_right (by omega) h) (by decide)
theorem n2_lt {n n2 P : Nat} {y : Int} (h2 : n2 = 16 * n + y.toNat) (hy : y < 16) (h : n < P) : n2 < P * 16 := by omega
theorem pow16' {c : Nat} (h : c ≤ 5) : 16 ^ c ≤ 1048576 := Nat.le_trans (Nat.pow_le_pow_right (by omega) h) (by decide)
theorem NI.push {w wr w9 : World} {l : List Nat} {m : Nat} {R : List Nat × Bool} {i n c : Nat} {o : List Nat} {v v2 : Value} {ob : Obj} (h : NI w wr l m R i n c o v) (hc : c ≤ 4) (h8 : ¬ o.length = 8) (hi : i ≤ m)
    (hq2 : Que w9 w.heap.size 3 v2 (i64s o ++ [.int .i64 (n : Int)])) (hg : (wr.alloc ob).grownBy w9 v.ownBlock)
    (hv : i + 1 ≤ m → numsF (l.drop (i + 1)) 0 0 (o ++ [n]) = R) (hf : i + 1 = m + 1 → (o ++ [n], true) = R) : NI w w9 l m R (i + 1) 0 0 (o ++ [n]) v2 := by
  have k2 : Keeps (fun b => v.ownBlock = some b) wr w9 := ((Keeps.refl _ wr).alloc ob).trans (Keeps.of_grown hg)
  have hlt : ∀ b, v.ownBlock = some b → w.heap.size ≤ b := fun b hb => (h.q.lt hb).1
  have hp := pow16 hc
  have := h.np
  refine ⟨by omega, by omega, by simp, by have := h.o8; simp; omega, fun x hx => ?_, by simpa [i64s] using hq2, fun S => ?_, hv, hf⟩
  · rcases List.mem_append.1 hx with z | z
    · exact h.os x z
    · simp at z; omega
  · have kk := h.keep S
    exact ⟨Nat.le_trans kk.size k2.size, fun x hx hs => by rw [k2.block x (Nat.lt_of_lt_of_le hx kk.size) (fun e => by have := hlt x e; omega), kk.block x hx hs], kk.same.trans k2.same⟩
/-- what numbers answers -/
def NumAns (w : World) (R : List Nat × Bool) (e : Ending) (w' : World) : Prop := ∃ A c, e = .returned (.tuple #[.slice A R.1.length c, .bool R.2]) ∧ Que w' w.heap.size 3 (.slice A R.1.length c) (i64s R.1) ∧ (∀ x ∈ R.1, x < 65536) ∧ R.1.length ≤ 8 ∧ ∀ S, Keeps S w w'
theorem NumAns.none_ {w w' : World} (k : ∀ S, Keeps S w w') (ok : Bool) : NumAns w ([], ok) (.returned (.tuple #[.slice none 0 0, .bool ok])) w' := ⟨none, 0, rfl, Que.nil_ _ _ _, fun x hx => by simp at hx, by simp, k⟩
section
variable (w : World)
set_option maxRecDepth 100000 in
set_option maxHeartbeats 8000000 in
theorem numbers_ (l : List Nat) (hb : ∀ x ∈ l, x < 256) (hl : l.length < 140737488355328) : Calls Tryz.prog 77 #[.string (str l)] w fun e w' => NumAns w (nums l) e w' := by
  by_cases hnil : l = []
  · subst hnil
    have e0 : str [] = (⟨#[]⟩ : ByteArray) := rfl
    rw [e0, show nums [] = ([], true) from rfl]
    clear hb hl e0
    go_enter Tryz.func77, Tryz.ntmps77
    go_wp2
    try rw [Exit.noGoto_ret]
    go_ret2
    exact NumAns.none_ (fun S => Keeps.refl S w) true
  obtain ⟨i0, hi0, hz0, hz1, hz2⟩ := info_parts int_info
  obtain ⟨m, hm⟩ : ∃ m, m = l.length := ⟨_, rfl⟩
  obtain ⟨s, hs⟩ : ∃ s, s = str l := ⟨_, rfl⟩
  have hsz : (s.size : Int) = (m : Int) := by rw [hs, str_size, hm]
  have hpos : 0 < m := by rw [hm]; exact List.length_pos_iff.2 hnil
  have hne : s.toList.isEmpty = false := by
    rw [hs, ByteArray.toList_eq]
    cases l with
    | nil => exact absurd rfl hnil
    | cons x r => simp [str]
  obtain ⟨R, hR⟩ : ∃ R, R = nums l := ⟨_, rfl⟩
  have hRF : R = numsF l 0 0 [] := by rw [hR]; unfold nums; rw [if_neg hnil]
  have HNI := Lib.hid (show NI w w l m R 0 0 0 [] (.slice none 0 0) from ⟨by omega, by omega, by simp, by simp, fun x hx => by simp at hx, Que.nil_ _ _ _, fun S => Keeps.refl S w, fun _ => by rw [List.drop_zero, hRF], fun h => by omega⟩)
  rw [← hs, ← hR]
  have HS := Lib.hid (show (∀ x ∈ l, x < 256) ∧ m = l.length ∧ s = str l ∧ m < 140737488355328 from ⟨hb, hm, hs, by omega⟩)
  have HH := fun c h w => Lib.hid (hexd_ c w h)
  clear hb hl hm hs hR hRF hnil hpos
  go_enter Tryz.func77, Tryz.ntmps77
  go_wp2_with fail
  go_loopw [4, 5, 6, 7] (fun ov nv cv iv wr => ∃ (i n c : Nat) (o : List Nat), iv = .int .i64 (i : Int) ∧ nv = .int .i64 (n : Int) ∧ cv = .int .i64 (c : Int) ∧ NI w wr l m R i n c o ov) (fun _ _ _ i _ => m + 1 - (intOf i).toNat)
  case atStart => exact ⟨0, 0, 0, [], rfl, rfl, rfl, HNI.out⟩
  case round =>
    clear HNI
    obtain ⟨i, n, c, o, rfl, rfl, rfl, hI⟩ := hrel
    obtain ⟨A, cp, hv⟩ := hI.q.form
    rw [i64s_len] at hv
    subst hv
    have HI := Lib.hid hI
    have hm9 := HS.out.2.2.2
    have hi9 := hI.im
    have h3 : (0 : Int) ≤ (i : Int) := by omega
    have hc9 := hI.c5
    have hn9 : n < 1048576 := Nat.lt_of_lt_of_le hI.np (pow16' hI.c5)
    have ho8 := hI.o8
    clear hI
    by_cases him : i ≤ m
    · have him' : (i : Int) ≤ (m : Int) := by omega
      by_cases hie : i = m
      · subst hie
        have HDR := Lib.hid (show l.drop i = [] from by rw [HS.out.2.1, List.drop_length])
        by_cases hc0 : c = 0
        · have hc0' : ((c : Int) == 0) = true := by rw [beq_iff_eq]; omega
          have HC0 := Lib.hid hc0
          clear hc0
          have HV := Lib.hid (show R = ([], false) from by
            have := HI.out.val (Nat.le_refl _); rw [HDR.out, numsF] at this; rw [← this]; rw [if_pos (.inl HC0.out)])
          clear hm9 hi9 hc9 hn9 ho8
          go_wp2
          try rw [Exit.noGoto_ret]
          go_ret2
          rw [HV.out]
          exact NumAns.none_ HI.out.keep false
        · have hc0' : ((c : Int) == 0) = false := by rw [beq_eq_false_iff_ne]; omega
          by_cases hc4 : 4 < c
          · have hc4' : (4 : Int) < (c : Int) := by omega
            have HV := Lib.hid (show R = ([], false) from by
              have := HI.out.val (Nat.le_refl _); rw [HDR.out, numsF] at this; rw [← this]; rw [if_pos (.inr (.inl hc4))])
            clear hm9 hi9 hc9 hn9 ho8
            go_wp2
            try rw [Exit.noGoto_ret]
            go_ret2
            rw [HV.out]
            exact NumAns.none_ HI.out.keep false
          · have hc4' : ¬ (4 : Int) < (c : Int) := by omega
            by_cases ho : o.length = 8
            · have ho' : ((o.length : Int) == 8) = true := by rw [beq_iff_eq]; omega
              have HO := Lib.hid ho
              clear ho
              have HV := Lib.hid (show R = ([], false) from by
                have := HI.out.val (Nat.le_refl _); rw [HDR.out, numsF] at this; rw [← this]; rw [if_pos (.inr (.inr HO.out))])
              clear hm9 hi9 hc9 hn9 ho8
              go_wp2
              try rw [Exit.noGoto_ret]
              go_ret2
              rw [HV.out]
              exact NumAns.none_ HI.out.keep false
            · have ho' : ((o.length : Int) == 8) = false := by rw [beq_eq_false_iff_ne]; omega
              have NX := Lib.hid (fun v2 w9 ob hq hg => HI.out.push (v2 := v2) (w9 := w9) (ob := ob) (by omega) ho (by omega) hq hg (fun h => by
                omega) (fun h => by
                have := HI.out.val (Nat.le_refl _); rw [HDR.out, numsF, if_neg (by omega)] at this; exact this))
              have hbs := (HI.out.keep (fun _ => False)).size
              clear ho hc4 hc0
              go_wp2_with (at_builtin; refine Que.wpList_append rfl _ _ 101 rfl i0 _ 8 Tryz.underlying101 hi0 hz0 hz1 hz2 rfl rfl (HI.out.q.alloc _) ⟨wr.heap.size, 0, none⟩ 1 (.int .i64 ((n : Nat) : Int)) rfl (by rw [(Blk.new wr 3 #[.int .i64 ((n : Nat) : Int)]).cell]; rfl) rfl (by rw [i64s_len]; unfold maxLen; omega) (by rw [i64s_len]; omega) (by simp; omega) ?_; intro v2 w9 hq9 hg9 hat9)
              go_roundw
              case rel => exact ⟨i + 1, 0, 0, o ++ [n], by first | rfl | go_num, rfl, rfl, NX.out _ _ _ hq9 hg9⟩
              case measure => simp [intOf] <;> omega
      · have hie' : ¬ (i : Int) = (m : Int) := by omega
        have hie2 : ((i : Int) == (m : Int)) = false := by rw [beq_eq_false_iff_ne]; exact hie'
        have hlt : (i : Int) < (m : Int) := by omega
        have hsn : i < s.size := by omega
        obtain ⟨x, hx⟩ : ∃ x, l[i]? = some x := ⟨_, List.getElem?_eq_getElem (by have := HS.out.2.1; omega)⟩
        have hx256 := HS.out.1 x (List.mem_of_getElem? hx)
        have hch := fun h => str_get hx hx256 s HS.out.2.2.1 h
        have HDR := Lib.hid (show l.drop i = x :: l.drop (i + 1) from by
          obtain ⟨h1, h2⟩ := List.getElem?_eq_some_iff.1 hx
          rw [← h2]; exact List.drop_eq_getElem_cons h1)
        clear hx
        by_cases hx58 : x = 58
        · subst hx58
          by_cases hc0 : c = 0
          · have hc0' : ((c : Int) == 0) = true := by rw [beq_iff_eq]; omega
            have HC0 := Lib.hid hc0
            clear hc0
            have HV := Lib.hid (show R = ([], false) from by
              have := HI.out.val (by omega); rw [HDR.out, numsF, if_pos rfl] at this; rw [← this]; rw [if_pos (.inl HC0.out)])
            clear hm9 hi9 hc9 hn9 ho8
            go_wp2
            try rw [Exit.noGoto_ret]
            go_ret2
            rw [HV.out]
            exact NumAns.none_ HI.out.keep false
          · have hc0' : ((c : Int) == 0) = false := by rw [beq_eq_false_iff_ne]; omega
            by_cases hc4 : 4 < c
            · have hc4' : (4 : Int) < (c : Int) := by omega
              have HV := Lib.hid (show R = ([], false) from by
                have := HI.out.val (by omega); rw [HDR.out, numsF, if_pos rfl] at this; rw [← this]; rw [if_pos (.inr (.inl hc4))])
              clear hm9 hi9 hc9 hn9 ho8
              go_wp2
              try rw [Exit.noGoto_ret]
              go_ret2
              rw [HV.out]
              exact NumAns.none_ HI.out.keep false
            · have hc4' : ¬ (4 : Int) < (c : Int) := by omega
              by_cases ho : o.length = 8
              · have ho' : ((o.length : Int) == 8) = true := by rw [beq_iff_eq]; omega
                have HO := Lib.hid ho
                clear ho
                have HV := Lib.hid (show R = ([], false) from by
                  have := HI.out.val (by omega); rw [HDR.out, numsF, if_pos rfl] at this; rw [← this]; rw [if_pos (.inr (.inr HO.out))])
                clear hm9 hi9 hc9 hn9 ho8
                go_wp2
                try rw [Exit.noGoto_ret]
                go_ret2
                rw [HV.out]
                exact NumAns.none_ HI.out.keep false
              · have ho' : ((o.length : Int) == 8) = false := by rw [beq_eq_false_iff_ne]; omega
                have NX := Lib.hid (fun v2 w9 ob hq hg => HI.out.push (v2 := v2) (w9 := w9) (ob := ob) (by omega) ho (by omega) hq hg (fun h => by
                  have := HI.out.val (by omega); rw [HDR.out, numsF, if_pos rfl, if_neg (by omega)] at this; exact this) (fun h => by
                  omega))
                have hbs := (HI.out.keep (fun _ => False)).size
                clear ho hc4 hc0
                go_wp2_with (at_builtin; refine Que.wpList_append rfl _ _ 101 rfl i0 _ 8 Tryz.underlying101 hi0 hz0 hz1 hz2 rfl rfl (HI.out.q.alloc _) ⟨wr.heap.size, 0, none⟩ 1 (.int .i64 ((n : Nat) : Int)) rfl (by rw [(Blk.new wr 3 #[.int .i64 ((n : Nat) : Int)]).cell]; rfl) rfl (by rw [i64s_len]; unfold maxLen; omega) (by rw [i64s_len]; omega) (by simp; omega) ?_; intro v2 w9 hq9 hg9 hat9)
                go_roundw
                case rel => exact ⟨i + 1, 0, 0, o ++ [n], by first | rfl | go_num, rfl, rfl, NX.out _ _ _ hq9 hg9⟩
                case measure => simp [intOf] <;> omega
        · have hx58' : ((x : Int) == 58) = false := by rw [beq_eq_false_iff_ne]; omega
          have HHX := Lib.hid (fun w => (HH x hx256 w).out)
          have hhl := hexv_lt x
          obtain ⟨y, hy⟩ : ∃ y, y = hexv x := ⟨_, rfl⟩
          have HY := Lib.hid hy
          rw [← hy] at HHX hhl
          by_cases hy0 : y < 0
          · clear hy
            go_wp2_with fail
            refine (HHX.out _).mono ?_
            rintro e w' ⟨rfl, rfl⟩
            have HV := Lib.hid (show R = ([], false) from by
              have := HI.out.val (by omega); rw [HDR.out, numsF, if_neg hx58] at this; rw [← this]; rw [if_pos (.inl (by rw [← HY.out]; exact hy0))])
            clear hm9 hi9 hc9 hn9 ho8
            go_wp2
            try rw [Exit.noGoto_ret]
            go_ret2
            rw [HV.out]
            exact NumAns.none_ HI.out.keep false
          · by_cases hc4 : 4 < c
            · have hc4' : (4 : Int) < (c : Int) := by omega
              clear hy
              go_wp2_with fail
              refine (HHX.out _).mono ?_
              rintro e w' ⟨rfl, rfl⟩
              have HV := Lib.hid (show R = ([], false) from by
                have := HI.out.val (by omega); rw [HDR.out, numsF, if_neg hx58] at this; rw [← this]; rw [if_pos (.inr hc4)])
              clear hm9 hi9 hc9 hn9 ho8
              go_wp2
              try rw [Exit.noGoto_ret]
              go_ret2
              rw [HV.out]
              exact NumAns.none_ HI.out.keep false
            · have hc4' : ¬ (4 : Int) < (c : Int) := by omega
              obtain ⟨n2, hn2⟩ : ∃ n2, n2 = 16 * n + y.toNat := ⟨_, rfl⟩
              have e2 : wrap64 (wrap64 (16 * (n : Int)) + y) = (n2 : Int) := by rw [w64s (x := 16 * (n : Int)) (by omega) (by omega), w64s (by omega) (by omega)]; omega
              have e1 : wrap64 (16 * (n : Int)) = 16 * (n : Int) := w64s (by omega) (by omega)
              have HN2 := Lib.hid hn2
              have hnp : n2 < 16 ^ (c + 1) := by rw [Nat.pow_succ]; exact n2_lt hn2 hhl.1 HI.out.np
              have NX := Lib.hid (show NI w wr l m R (i + 1) n2 (c + 1) o (.slice A o.length cp) from ⟨by omega, by omega, hnp, HI.out.o8, HI.out.os, HI.out.q, HI.out.keep, fun h => by
                have := HI.out.val (by omega)
                rw [HDR.out, numsF, if_neg hx58, if_neg (by rw [← HY.out]; omega), ← HY.out, ← hn2] at this
                exact this, fun h => by omega⟩)
              clear hn2 hy hnp
              go_wp2_with fail
              refine (HHX.out _).mono ?_
              rintro e w' ⟨rfl, rfl⟩
              go_wp2_with fail
              refine (HHX.out _).mono ?_
              rintro e w' ⟨rfl, rfl⟩
              go_wp2_with fail
              go_roundw
              case rel => exact ⟨i + 1, n2, c + 1, o, by first | rfl | go_num, by first | rfl | (have := HN2.out; go_num), by first | rfl | go_num, NX.out⟩
              case measure => simp [intOf] <;> omega
    · obtain rfl : i = m + 1 := by omega
      have him' : ¬ (((m + 1 : Nat)) : Int) ≤ (m : Int) := by omega
      have HV := Lib.hid (HI.out.fin rfl)
      clear hm9 hi9 hc9 hn9 ho8
      go_wp2
      try rw [Exit.noGoto_ret]
      go_ret2
      rw [← HV.out]
      exact ⟨A, cp, rfl, HI.out.q, HI.out.os, HI.out.o8, HI.out.keep⟩
end
end Go.Proofs.YtgcdhfpbmcfedaaGreatDoor.pf
end
section
set_option linter.unusedVariables false
namespace Go.Proofs.YtgcdhfpbmcfedaaGreatDoor.pf
open Go.RowKit Go.Proofs.YtgcdhfpbmcfedaaGreatDoor.oc Go.Proofs.YtgcdhfpbmcfedaaGreatDoor.mz
/-- where two colons stand side by side first -/
def gapL : List Nat → Option Nat
  | [] => none
  | [_] => none
  | x :: y :: r => if x = 58 ∧ y = 58 then some 0 else (gapL (y :: r)).map (· + 1)
theorem gapL_lt : ∀ (l : List Nat) (j : Nat), gapL l = some j → j + 1 < l.length
  | [], j, h => by simp [gapL] at h
  | [_], j, h => by simp [gapL] at h
  | x :: y :: r, j, h => by
    unfold gapL at h
    split at h
    · simp at h; subst h; simp
    · simp at h
      obtain ⟨k, hk, rfl⟩ := h
      have := gapL_lt (y :: r) k hk
      simp at this ⊢; omega
/-- numbers are put at their places, from the k-th on -/
def putN : List Nat → Nat → List Nat → List Nat
  | B, _, [] => B
  | B, k, n :: r => putN ((B.set (2 * k) (n / 256)).set (2 * k + 1) (n % 256)) (k + 1) r
def zero16 : List Nat := List.replicate 16 0
def headL (l : List Nat) : List Nat := match gapL l with | some j => l.take j | none => l
def tailL (l : List Nat) : List Nat := match gapL l with | some j => l.drop (j + 2) | none => []
def badL (l : List Nat) : Prop := (nums (headL l)).2 = false ∨ (nums (tailL l)).2 = false ∨ (gapL l = none ∧ ¬ (nums (headL l)).1.length = 8) ∨ 8 < (nums (headL l)).1.length + (nums (tailL l)).1.length
open Classical in
noncomputable def sixF (l : List Nat) : List Nat × Bool := if badL l then (zero16, false) else (putN (putN zero16 0 (nums (headL l)).1) (8 - (nums (tailL l)).1.length) (nums (tailL l)).1, true)
theorem head_none {l : List Nat} (h : gapL l = none) : headL l = l := by unfold headL; rw [h]
theorem tail_none {l : List Nat} (h : gapL l = none) : tailL l = [] := by unfold tailL; rw [h]
theorem head_some {l : List Nat} {j : Nat} (h : gapL l = some j) : headL l = l.take j := by unfold headL; rw [h]
theorem tail_some {l : List Nat} {j : Nat} (h : gapL l = some j) : tailL l = l.drop (j + 2) := by unfold tailL; rw [h]
end Go.Proofs.YtgcdhfpbmcfedaaGreatDoor.pf
end
