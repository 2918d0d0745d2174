/-
  PrefixBack: its walk.
-/
import Derived.Deep.DeepCutAuto
import Derived.Test.YtgcdhfpbmcfedaaGreatDoorZPiJ
set_option linter.unusedVariables false
set_option linter.unusedSimpArgs false
namespace Go.Proofs.YtgcdhfpbmcfedaaGreatDoor.pf
open Go.RowKit Go.Proofs.YtgcdhfpbmcfedaaGreatDoor.oc Go.Proofs.YtgcdhfpbmcfedaaGreatDoor.mz Go.Proofs.YtgcdhfpbmcfedaaGreatDoor.wh Go.Proofs.YtgcdhfpbmcfedaaGreatDoor.qk
theorem ptext_le (p : Px) : (ptext p).length ≤ 60 := by
  have h1 := atext_len p.a
  have h2 : (dec p.bits.toNat).length ≤ 3 := dg_len 10 3 _
  unfold ptext
  rw [List.length_append, List.length_cons]
  omega
section
variable (w : World)
set_option maxRecDepth 100000 in
set_option maxHeartbeats 3000000 in
theorem walk_prefixBack (a0 : Ad) (ha0 : a0.Wf) (i : Int) (hi1 : -9223372036854775808 ≤ i) (hi2 : i ≤ 9223372036854775807) (l : List Nat) (hl : ∀ x ∈ l, x < 256) (hn : l.length < 140737488355328) (henv : Env w) :
    Calls Tryz.prog 5 #[av a0, .int .i64 i, .string (str l)] w fun e w' => e = .returned (.bool true) ∧ ∀ S, Keeps S w w' := by
  obtain ⟨w0, hw0, k0, bb0⟩ : ∃ w1, w1 = w.alloc (.cells (adc a0).toArray 24) ∧ (∀ S, Keeps S w w1) ∧ Blk w1 w.heap.size 24 (adc a0) := ⟨_, rfl, fun S => (Keeps.refl S w).alloc _, Blk.new w _ _⟩
  have HR := fun w => Lib.hid (right_ w a0 ha0)
  have ha := rightA_wf ha0
  have hoa := rightA_ok ha0
  have HL0 := Lib.hid (Blk.range bb0)
  have HS0 := Lib.hid (ad_sz ha0)
  have BB0 := Lib.hid bb0
  have KK0 : Hid (∀ S, Keeps S w w0) := Lib.hid k0
  have HW0 := Lib.hid hw0
  have HEV0 := Lib.hid henv
  clear hw0 k0 bb0 henv
  obtain ⟨a, hae⟩ : ∃ a, a = rightA a0 := ⟨_, rfl⟩
  rw [← hae] at HR ha hoa
  unfold av at HR
  have HAE := Lib.hid hae
  clear hae
  obtain ⟨s, hs⟩ : ∃ s, s = str l := ⟨_, rfl⟩
  rw [← hs]
  have HSS := Lib.hid hs
  clear hs
  unfold av
  obtain ⟨CA0, hCA0⟩ : ∃ c, c = adc a0 := ⟨_, rfl⟩
  rw [← hCA0] at HR HL0 HS0 BB0 HW0 ⊢
  have HCA0 := Lib.hid hCA0
  clear hCA0
  go_enter Tryz.func5, Tryz.ntmps5
  go_wp2_with ((with_reducible show wpList _ _ _ (⟨some 20, _, _, _, _, _⟩ :: _) _ _); rw [← HW0.out]; refine wpList_load_mid rfl 24 _ rfl w.heap.size 0 rfl CA0 _ HL0.out Tryz.underlying24 rfl HS0.out ?_)
  refine (HR _).out.mono ?_
  rintro e x1 ⟨rfl, kx1⟩
  have BX1 := Blk.keeps BB0.out (kx1 (fun _ => False)) (fun z => z)
  obtain ⟨o1, o2, o3, o5, o6⟩ := over_ad ha BX1 (by rw [HCA0.out]; exact adc_len ha0)
  obtain ⟨w1, hw1⟩ : ∃ y, y = x1.setCells w.heap.size 0 (adc a) := ⟨_, rfl⟩
  rw [← hw1] at o5 o6
  have HT0 := Lib.hid (And.intro o1 (And.intro o2 o3))
  have HB0 := Lib.hid hw1
  have K1 : Hid (∀ S, Keeps S w w1) := Lib.hid (glue_all (Nat.le_refl _) (fun S => (KK0.out S).trans (kx1 S)) o6)
  have F0 := ad_facts o5
  have Z0 := Lib.hid (ad_sz ha)
  have HEV := fun (wq : World) (hC : Old w1 wq) => HEV0.out.keeps (fun S => (K1.out S).trans (hC.all S))
  clear HR HL0 HS0 BB0 HW0 KK0 kx1 BX1 o1 o2 o3 o5 o6 hw1
  obtain ⟨k, hk⟩ : ∃ k, k = i % ((wid a : Int) + 1) := ⟨_, rfl⟩
  have hwa := wid_le a
  have hk0 : 0 ≤ k := by rw [hk]; exact Int.emod_nonneg _ (by omega)
  have hk1 : k ≤ (wid a : Int) := by have := Int.emod_lt_of_pos i (show 0 < (wid a : Int) + 1 by omega); omega
  obtain ⟨p, hp⟩ : ∃ p, p = ofP a k.toNat := ⟨_, rfl⟩
  have hpo : okP p := by rw [hp]; exact ofP_ok ha hoa _ (by omega)
  have hpw : p.a.Wf := by rw [hp]; exact clr_wf ha _
  have H2 := fun w (h : Env w) => Lib.hid (ptxa_ w a ha h)
  rw [txA_yes hoa] at H2
  have H3 := fun w (h : Env w) => Lib.hid (prda_ w (atext a) (fun x hx => atext_lt ha x hx) (by have := atext_len a; omega) h)
  rw [rdA_yes (show IsText (atext a) a from ⟨ha, hoa, rfl⟩)] at H3
  have HWd := fun w => Lib.hid (lwidth_ w a)
  have HWi := fun w => Lib.hid (within_ w i (wid a : Int) ⟨hi1, hi2⟩ (by omega) (by omega))
  have HOf := fun w => Lib.hid (pofa_ w a k ha)
  rw [ofA_in hoa hk0 hk1, ← hp] at HOf
  rw [← hk] at HWi
  have H7 := fun w (h : Env w) => Lib.hid (ptxp_ w p hpw h)
  rw [txP_yes hpo] at H7
  have H8 := fun w (h : Env w) => Lib.hid (prdp_ w (ptext p) (fun x hx => ptext_lt hpw hpo x hx) (by have := ptext_le p; omega) h)
  rw [rdP_yes (show IsPText (ptext p) p from ⟨hpw, hpo, rfl⟩)] at H8
  have H11 := fun w (h : Env w) => Lib.hid (prda_ w l hl hn h)
  have H16 := fun w (h : Env w) => Lib.hid (prdp_ w l hl hn h)
  rw [← HSS.out] at H11 H16
  have HWK := fun w (h : Env w) => Lib.hid (works_ w h)
  have HNA := fun w => addr_neq a a ha ha w
  rw [decide_eq_true (rfl : a = a)] at HNA
  have HNP := fun w => px_neq p p hpw hpw w
  rw [decide_eq_true (rfl : p = p)] at HNP
  have hcw := rdA_wf l
  have hrw := rdP_wf l
  have HDA := Lib.hid (show (rdA l).2 = 0 → okA (rdA l).1 ∧ atext (rdA l).1 = l from fun z => by
    rcases Classical.em (∃ a, IsText l a) with ⟨c, hc⟩ | hc
    · rw [rdA_yes hc]; exact hc.2
    · rw [rdA_no (fun c z => hc ⟨c, z⟩)] at z; simp at z)
  have HDP := Lib.hid (show (rdP l).2 = 0 → okP (rdP l).1 ∧ ptext (rdP l).1 = l from fun z => by
    rcases Classical.em (∃ a, IsPText l a) with ⟨c, hc⟩ | hc
    · rw [rdP_yes hc]; exact hc.2
    · rw [rdP_no (fun c z => hc ⟨c, z⟩)] at z; simp at z)
  generalize (rdA l).1 = c at *
  generalize (rdA l).2 = ec at *
  generalize (rdP l).1 = r at *
  generalize (rdP l).2 = er at *
  have H13 := fun w (h : Env w) => Lib.hid (ptxa_ w c hcw h)
  have H14 := fun w => Lib.hid (pcheckaddr_ w c hcw)
  have H18 := fun w (h : Env w) => Lib.hid (ptxp_ w r hrw h)
  have H19 := fun w => Lib.hid (pcheck_ w r hrw)
  generalize str (atext a) = s1 at *
  generalize str (ptext p) = s2 at *
  clear hk hk0 hk1 hp hwa hl hn hi1 hi2 hoa hpo
  generalize (wid a : Int) = wd at *
  unfold av at H2 H3 HWd HOf H11 H13 H14 HNA
  unfold pv at HOf H7 H8 H16 H18 H19 HNP
  generalize hCA : adc a = CA at *
  have HCA := Lib.hid hCA
  clear hCA
  generalize hCP : pxc p = CP at *
  have HCP := Lib.hid hCP
  clear hCP
  generalize hAP : adc p.a = AP at *
  have HAP := Lib.hid hAP
  clear hAP
  generalize hCC : adc c = CC at *
  have HCC := Lib.hid hCC
  clear hCC
  generalize hCR : pxc r = CR at *
  have HCR := Lib.hid hCR
  clear hCR
  generalize hAR : adc r.a = AR at *
  have HAR := Lib.hid hAR
  clear hAR
  try rw [HCA.out]
  go_wp2_with (first | (refine wpList_store_mid rfl 24 _ _ rfl w.heap.size 0 CA.toArray rfl rfl HT0.out.1 HT0.out.2.1 HT0.out.2.2 ?_; rw [← HB0.out]) | ((with_reducible show wpList _ _ _ (⟨some 23, _, _, _, _, _⟩ :: _) _ _); refine x_list (Old.refl w1) ?_))
  --@0
  refine x_load (by kernel_rfl) 24 _ rfl w.heap.size 0 rfl CA _ (fun wq hC => (F0 wq hC).1) Tryz.underlying24 rfl Z0.out ?_
  try simp only [Act.put, Array.getInternal_eq_getElem, List.getElem_toArray, List.getElem_cons_zero, List.getElem_cons_succ, List.setIfInBounds_toArray, List.set_cons_zero, List.set_cons_succ]
  --@1
  refine x_call (by kernel_rfl) (fun wq hC => old_call hC (H2 wq (HEV wq hC)).out) (fun wq => ?_) ?_
  · go_simp <;> (try (with_reducible rfl))
  try simp only [Act.put, Array.getInternal_eq_getElem, List.getElem_toArray, List.getElem_cons_zero, List.getElem_cons_succ, List.setIfInBounds_toArray, List.set_cons_zero, List.set_cons_succ]
  --@2
  refine x_any (by kernel_rfl) ?_ (fun wq hC => ?_) ?_
  rotate_left
  · (go_simp) <;> (try (with_reducible rfl))
  try simp only [Act.put, Array.getInternal_eq_getElem, List.getElem_toArray, List.getElem_cons_zero, List.getElem_cons_succ, List.setIfInBounds_toArray, List.set_cons_zero, List.set_cons_succ]
  --@3
  refine x_any (by kernel_rfl) ?_ (fun wq hC => ?_) ?_
  rotate_left
  · (go_simp) <;> (try (with_reducible rfl))
  try simp only [Act.put, Array.getInternal_eq_getElem, List.getElem_toArray, List.getElem_cons_zero, List.getElem_cons_succ, List.setIfInBounds_toArray, List.set_cons_zero, List.set_cons_succ]
  --@4
  refine x_any (by kernel_rfl) ?_ (fun wq hC => ?_) ?_
  rotate_left
  · (go_simp) <;> (try (with_reducible rfl))
  try simp only [Act.put, Array.getInternal_eq_getElem, List.getElem_toArray, List.getElem_cons_zero, List.getElem_cons_succ, List.setIfInBounds_toArray, List.set_cons_zero, List.set_cons_succ]
  --@5
  refine x_any (by kernel_rfl) ?_ (fun wq hC => ?_) ?_
  rotate_left
  · (go_simp) <;> (try (with_reducible rfl))
  try simp only [Act.put, Array.getInternal_eq_getElem, List.getElem_toArray, List.getElem_cons_zero, List.getElem_cons_succ, List.setIfInBounds_toArray, List.set_cons_zero, List.set_cons_succ]
  --@6
  refine x_any (by kernel_rfl) ?_ (fun wq hC => ?_) ?_
  rotate_left
  · (go_simp) <;> (try (with_reducible rfl))
  try simp only [Act.put, Array.getInternal_eq_getElem, List.getElem_toArray, List.getElem_cons_zero, List.getElem_cons_succ, List.setIfInBounds_toArray, List.set_cons_zero, List.set_cons_succ]
  refine x_nil ?_
  intro wa kwa
  go_wp2_with ((with_reducible show wpList _ _ _ (⟨some 29, _, _, _, _, _⟩ :: _) _ _); refine x_list kwa ?_)
  --@0
  refine x_call (by kernel_rfl) (fun wq hC => old_call hC (H3 wq (HEV wq hC)).out) (fun wq => ?_) ?_
  · go_simp <;> (try (with_reducible rfl))
  try simp only [Act.put, Array.getInternal_eq_getElem, List.getElem_toArray, List.getElem_cons_zero, List.getElem_cons_succ, List.setIfInBounds_toArray, List.set_cons_zero, List.set_cons_succ]
  --@1
  refine x_any (by kernel_rfl) ?_ (fun wq hC => ?_) ?_
  rotate_left
  · (go_simp) <;> (try (with_reducible rfl))
  try simp only [Act.put, Array.getInternal_eq_getElem, List.getElem_toArray, List.getElem_cons_zero, List.getElem_cons_succ, List.setIfInBounds_toArray, List.set_cons_zero, List.set_cons_succ]
  --@2
  refine x_any (by kernel_rfl) ?_ (fun wq hC => ?_) ?_
  rotate_left
  · (go_simp) <;> (try (with_reducible rfl))
  try simp only [Act.put, Array.getInternal_eq_getElem, List.getElem_toArray, List.getElem_cons_zero, List.getElem_cons_succ, List.setIfInBounds_toArray, List.set_cons_zero, List.set_cons_succ]
  --@3
  refine x_any (by kernel_rfl) ?_ (fun wq hC => ?_) ?_
  rotate_left
  · (go_simp) <;> (try (with_reducible rfl))
  try simp only [Act.put, Array.getInternal_eq_getElem, List.getElem_toArray, List.getElem_cons_zero, List.getElem_cons_succ, List.setIfInBounds_toArray, List.set_cons_zero, List.set_cons_succ]
  refine x_stop ?_
  intro wb kwb
  obtain ⟨b1, hb1, htb1, bbb1, kbb1⟩ := box_ad wb a ha
  have HTb1 := Lib.hid htb1
  have HBb1 := Lib.hid hb1
  have KOb1 : Old w1 b1 := kwb.trans (kbb1 _)
  have Kb1 : Hid (∀ S, Keeps S w b1) := Lib.hid (fun S => (K1.out S).trans (KOb1.all S))
  have HEV := fun (wq : World) (hC : Old b1 wq) => HEV0.out.keeps (fun S => (Kb1.out S).trans (hC.all S))
  have F0_b1 := fun (wq : World) (hC : Old b1 wq) => F0 wq (KOb1.trans hC)
  have F1 := ad_facts bbb1
  have Z1 := Lib.hid (ad_sz ha)
  clear hb1 htb1 bbb1 kbb1
  rw [HCA.out] at F1 Z1 HTb1 HBb1
  go_upto_region 4 with (first | (refine wpList_store_mid rfl 24 _ _ rfl wb.heap.size 0 CA.toArray rfl rfl HTb1.out.1 HTb1.out.2.1 HTb1.out.2.2 ?_; rw [← HBb1.out]))
  go_cut [11, 12] (fun s7 s8 wx => ∃ B, s7 = .pointer (some ⟨B, 0, none⟩) ∧ s8 = .int .i64 0 ∧ Old b1 wx ∧ Blk wx B 28 CP)
  case first =>
    refine wp_region_held_drew (S := fun w' => w'.rangeAt w.heap.size 0 CA) (by kernel_rfl) (F0_b1 b1.drew (Old.refl b1).drew).1 (fun hHeld => ?_)
    obtain ⟨xd, hxd⟩ : ∃ y, y = b1.drew := ⟨_, rfl⟩
    rw [← hxd] at hHeld ⊢
    have kxd : Old b1 xd := by rw [hxd]; exact (Old.refl b1).drew
    clear hxd
    refine' wpAnyH_take (i := 0) (v := _) rfl (by kernel_rfl) (by kernel_rfl) (by kernel_rfl) (fun _ _ _ h => h) (yieldsIf_load_mid (by kernel_rfl) _ _ rfl _ _ rfl _ _ (fun w hSw => hSw) Tryz.underlying24 rfl Z0.out) (by assumption) ?_
    try simp only [Act.put, Array.getInternal_eq_getElem, List.getElem_toArray, List.getElem_cons_zero, List.getElem_cons_succ, List.setIfInBounds_toArray, List.set_cons_zero, List.set_cons_succ]
    refine wpAnyH_take (i := 1) (v := ?_) rfl (by kernel_rfl) (by kernel_rfl) (by kernel_rfl) (fun _ _ _ h => h) (Or.inl ⟨by kernel_rfl, ?_⟩) (by assumption) ?_
    rotate_left
    · (intro w hSw; (try dsimp only at hSw); go_simp) <;> (try (with_reducible rfl))
    try simp only [Act.put, Array.getInternal_eq_getElem, List.getElem_toArray, List.getElem_cons_zero, List.getElem_cons_succ, List.setIfInBounds_toArray, List.set_cons_zero, List.set_cons_succ]
    refine' wpAnyH_take (i := 2) (v := _) rfl (by kernel_rfl) (by kernel_rfl) (by kernel_rfl) (fun _ _ _ h => h) (yieldsIf_load_mid (by kernel_rfl) _ _ rfl _ _ rfl _ _ (fun w hSw => hSw) Tryz.underlying24 rfl Z0.out) (by assumption) ?_
    try simp only [Act.put, Array.getInternal_eq_getElem, List.getElem_toArray, List.getElem_cons_zero, List.getElem_cons_succ, List.setIfInBounds_toArray, List.set_cons_zero, List.set_cons_succ]
    refine wpAnyH_ready (rs := [3, 9]) (by kernel_rfl) (by simp) ?_
    refine AllReadyH.cons rfl (fun K hK => ?_) (AllReadyH.cons rfl (fun K hK => ?_) AllReadyH.nil)
    · (rw [if_pos (by kernel_rfl)]; go_simp; go_at_call 13; refine ((HWd _).out).mono ?_; rintro e x1 ⟨rfl, k2⟩)
      have q3 : Old b1 x1 := kxd.trans (k2 _)
      refine hK.out _ _ (F0_b1 x1 q3).1 (fun hHeld => ?_)
      clear hK K
      try simp only [Act.put, Array.getInternal_eq_getElem, List.getElem_toArray, List.getElem_cons_zero, List.getElem_cons_succ, List.setIfInBounds_toArray, List.set_cons_zero, List.set_cons_succ]
      refine wpAnyH_ready (rs := [4, 9]) (by kernel_rfl) (by simp) ?_
      refine AllReadyH.cons rfl (fun K hK => ?_) (AllReadyH.cons rfl (fun K hK => ?_) AllReadyH.nil)
      · (rw [if_pos (by kernel_rfl)]; go_simp; go_at_call 12; refine ((HWi _).out).mono ?_; rintro e x4 ⟨rfl, k5⟩)
        have q6 : Old b1 x4 := q3.trans (k5 _)
        refine hK.out _ _ (F0_b1 x4 q6).1 (fun hHeld => ?_)
        clear hK K
        try simp only [Act.put, Array.getInternal_eq_getElem, List.getElem_toArray, List.getElem_cons_zero, List.getElem_cons_succ, List.setIfInBounds_toArray, List.set_cons_zero, List.set_cons_succ]
        refine wpAnyH_ready (rs := [5, 9]) (by kernel_rfl) (by simp) ?_
        refine AllReadyH.cons rfl (fun K hK => ?_) (AllReadyH.cons rfl (fun K hK => ?_) AllReadyH.nil)
        · (rw [if_pos (by kernel_rfl)]; go_simp; go_at_call 11; refine ((HOf _).out).mono ?_; rintro e x7 ⟨rfl, k8⟩)
          have q9 : Old b1 x7 := q6.trans (k8 _)
          refine hK.out _ _ (F0_b1 x7 q9).1 (fun hHeld => ?_)
          clear hK K
          try simp only [Act.put, Array.getInternal_eq_getElem, List.getElem_toArray, List.getElem_cons_zero, List.getElem_cons_succ, List.setIfInBounds_toArray, List.set_cons_zero, List.set_cons_succ]
          refine wpAnyH_take (i := 6) (v := ?_) rfl (by kernel_rfl) (by kernel_rfl) (by kernel_rfl) (fun _ _ _ h => h) (Or.inl ⟨by kernel_rfl, ?_⟩) (by assumption) ?_
          rotate_left
          · (intro w hSw; (try dsimp only at hSw); go_simp) <;> (try (with_reducible rfl))
          try simp only [Act.put, Array.getInternal_eq_getElem, List.getElem_toArray, List.getElem_cons_zero, List.getElem_cons_succ, List.setIfInBounds_toArray, List.set_cons_zero, List.set_cons_succ]
          refine wpAnyH_take (i := 7) (v := ?_) rfl (by kernel_rfl) (by kernel_rfl) (by kernel_rfl) (fun _ _ _ h => h) (Or.inl ⟨by kernel_rfl, ?_⟩) (by assumption) ?_
          rotate_left
          · (intro w hSw; (try dsimp only at hSw); go_simp) <;> (try (with_reducible rfl))
          try simp only [Act.put, Array.getInternal_eq_getElem, List.getElem_toArray, List.getElem_cons_zero, List.getElem_cons_succ, List.setIfInBounds_toArray, List.set_cons_zero, List.set_cons_succ]
          refine wpAnyH_take (i := 8) (v := ?_) rfl (by kernel_rfl) (by kernel_rfl) (by kernel_rfl) (fun _ _ _ h => h) (Or.inl ⟨by kernel_rfl, ?_⟩) (by assumption) ?_
          rotate_left
          · (intro w hSw; (try dsimp only at hSw); go_simp) <;> (try (with_reducible rfl))
          try simp only [Act.put, Array.getInternal_eq_getElem, List.getElem_toArray, List.getElem_cons_zero, List.getElem_cons_succ, List.setIfInBounds_toArray, List.set_cons_zero, List.set_cons_succ]
          refine wpAnyH_ready (rs := [9]) (by kernel_rfl) (by simp) ?_
          refine AllReadyH.cons rfl (fun K hK => ?_) AllReadyH.nil
          · have lt15 : b1.heap.size ≤ x7.heap.size := q9.size
            obtain ⟨x10, hw11, bb12, k13⟩ := new_zp x7
            have q14 : Old b1 x10 := q9.trans (k13 _)
            (rw [if_pos (by kernel_rfl)]; go_simp; rw [← hw11])
            clear hw11
            refine hK.out _ _ (F0_b1 x10 q14).1 (fun hHeld => ?_)
            clear hK K
            try simp only [Act.put, Array.getInternal_eq_getElem, List.getElem_toArray, List.getElem_cons_zero, List.getElem_cons_succ, List.setIfInBounds_toArray, List.set_cons_zero, List.set_cons_succ]
            obtain ⟨t1, t2, t3, t5, t6⟩ := over_px (c := p) hpw bb12 rfl
            obtain ⟨x17, hs16⟩ : ∃ y, y = x10.setCells x7.heap.size 0 (pxc p) := ⟨_, rfl⟩
            rw [← hs16] at t5 t6
            have x17q : Old b1 x17 := old_over q14 lt15 t6
            have x17b := t5
            rw [HCP.out] at t1 t2 t3 hs16 x17b
            refine wpAnyH_ready (rs := [10]) (by kernel_rfl) (by simp) ?_
            refine AllReadyH.cons rfl (fun K hK => ?_) AllReadyH.nil
            (rw [if_pos (by kernel_rfl)]; simp only [Array.getInternal_eq_getElem, List.getElem_toArray, List.getElem_cons_zero, List.getElem_cons_succ]; refine wp_store_mid 28 _ _ rfl x7.heap.size 0 CP.toArray rfl rfl t1 t2 t3 ?_; simp only [List.toList_toArray, Act.put]; rw [← hs16])
            refine hK.out _ _ (F0_b1 x17 x17q).1 (fun hHeld => ?_)
            clear hK K
            try simp only [Act.put, Array.getInternal_eq_getElem, List.getElem_toArray, List.getElem_cons_zero, List.getElem_cons_succ, List.setIfInBounds_toArray, List.set_cons_zero, List.set_cons_succ]
            refine wpAnyH_take (i := 11) (v := ?_) rfl (by kernel_rfl) (by kernel_rfl) (by kernel_rfl) (fun _ _ _ h => h) (Or.inl ⟨by kernel_rfl, ?_⟩) (by assumption) ?_
            rotate_left
            · (intro w hSw; (try dsimp only at hSw); go_simp) <;> (try (with_reducible rfl))
            try simp only [Act.put, Array.getInternal_eq_getElem, List.getElem_toArray, List.getElem_cons_zero, List.getElem_cons_succ, List.setIfInBounds_toArray, List.set_cons_zero, List.set_cons_succ]
            refine wpAnyH_done ?_ ?_ _
            · kernel_rfl
            clear hHeld
            go_wp2_with fail
            go_meet
            exact ⟨_, rfl, rfl, x17q, x17b⟩


        · have lt23 : b1.heap.size ≤ x4.heap.size := q6.size
          obtain ⟨x18, hw19, bb20, k21⟩ := new_zp x4
          have q22 : Old b1 x18 := q6.trans (k21 _)
          (rw [if_pos (by kernel_rfl)]; go_simp; rw [← hw19])
          clear hw19
          refine hK.out _ _ (F0_b1 x18 q22).1 (fun hHeld => ?_)
          clear hK K
          try simp only [Act.put, Array.getInternal_eq_getElem, List.getElem_toArray, List.getElem_cons_zero, List.getElem_cons_succ, List.setIfInBounds_toArray, List.set_cons_zero, List.set_cons_succ]
          refine wpAnyH_ready (rs := [5]) (by kernel_rfl) (by simp) ?_
          refine AllReadyH.cons rfl (fun K hK => ?_) AllReadyH.nil
          · (rw [if_pos (by kernel_rfl)]; go_simp; go_at_call 11; refine ((HOf _).out).mono ?_; rintro e x24 ⟨rfl, k25⟩)
            have q26 : Old b1 x24 := q22.trans (k25 _)
            have bb27 := Blk.keeps bb20 (k25 (fun _ => False)) (fun z => z)
            refine hK.out _ _ (F0_b1 x24 q26).1 (fun hHeld => ?_)
            clear hK K
            try simp only [Act.put, Array.getInternal_eq_getElem, List.getElem_toArray, List.getElem_cons_zero, List.getElem_cons_succ, List.setIfInBounds_toArray, List.set_cons_zero, List.set_cons_succ]
            refine wpAnyH_take (i := 6) (v := ?_) rfl (by kernel_rfl) (by kernel_rfl) (by kernel_rfl) (fun _ _ _ h => h) (Or.inl ⟨by kernel_rfl, ?_⟩) (by assumption) ?_
            rotate_left
            · (intro w hSw; (try dsimp only at hSw); go_simp) <;> (try (with_reducible rfl))
            try simp only [Act.put, Array.getInternal_eq_getElem, List.getElem_toArray, List.getElem_cons_zero, List.getElem_cons_succ, List.setIfInBounds_toArray, List.set_cons_zero, List.set_cons_succ]
            refine wpAnyH_take (i := 7) (v := ?_) rfl (by kernel_rfl) (by kernel_rfl) (by kernel_rfl) (fun _ _ _ h => h) (Or.inl ⟨by kernel_rfl, ?_⟩) (by assumption) ?_
            rotate_left
            · (intro w hSw; (try dsimp only at hSw); go_simp) <;> (try (with_reducible rfl))
            try simp only [Act.put, Array.getInternal_eq_getElem, List.getElem_toArray, List.getElem_cons_zero, List.getElem_cons_succ, List.setIfInBounds_toArray, List.set_cons_zero, List.set_cons_succ]
            refine wpAnyH_take (i := 8) (v := ?_) rfl (by kernel_rfl) (by kernel_rfl) (by kernel_rfl) (fun _ _ _ h => h) (Or.inl ⟨by kernel_rfl, ?_⟩) (by assumption) ?_
            rotate_left
            · (intro w hSw; (try dsimp only at hSw); go_simp) <;> (try (with_reducible rfl))
            try simp only [Act.put, Array.getInternal_eq_getElem, List.getElem_toArray, List.getElem_cons_zero, List.getElem_cons_succ, List.setIfInBounds_toArray, List.set_cons_zero, List.set_cons_succ]
            obtain ⟨t1, t2, t3, t5, t6⟩ := over_px (c := p) hpw bb27 rfl
            obtain ⟨x29, hs28⟩ : ∃ y, y = x24.setCells x4.heap.size 0 (pxc p) := ⟨_, rfl⟩
            rw [← hs28] at t5 t6
            have x29q : Old b1 x29 := old_over q26 lt23 t6
            have x29b := t5
            rw [HCP.out] at t1 t2 t3 hs28 x29b
            refine wpAnyH_ready (rs := [10]) (by kernel_rfl) (by simp) ?_
            refine AllReadyH.cons rfl (fun K hK => ?_) AllReadyH.nil
            (rw [if_pos (by kernel_rfl)]; simp only [Array.getInternal_eq_getElem, List.getElem_toArray, List.getElem_cons_zero, List.getElem_cons_succ]; refine wp_store_mid 28 _ _ rfl x4.heap.size 0 CP.toArray rfl rfl t1 t2 t3 ?_; simp only [List.toList_toArray, Act.put]; rw [← hs28])
            refine hK.out _ _ (F0_b1 x29 x29q).1 (fun hHeld => ?_)
            clear hK K
            try simp only [Act.put, Array.getInternal_eq_getElem, List.getElem_toArray, List.getElem_cons_zero, List.getElem_cons_succ, List.setIfInBounds_toArray, List.set_cons_zero, List.set_cons_succ]
            refine wpAnyH_take (i := 11) (v := ?_) rfl (by kernel_rfl) (by kernel_rfl) (by kernel_rfl) (fun _ _ _ h => h) (Or.inl ⟨by kernel_rfl, ?_⟩) (by assumption) ?_
            rotate_left
            · (intro w hSw; (try dsimp only at hSw); go_simp) <;> (try (with_reducible rfl))
            try simp only [Act.put, Array.getInternal_eq_getElem, List.getElem_toArray, List.getElem_cons_zero, List.getElem_cons_succ, List.setIfInBounds_toArray, List.set_cons_zero, List.set_cons_succ]
            refine wpAnyH_done ?_ ?_ _
            · kernel_rfl
            clear hHeld
            go_wp2_with fail
            go_meet
            exact ⟨_, rfl, rfl, x29q, x29b⟩



      · have lt35 : b1.heap.size ≤ x1.heap.size := q3.size
        obtain ⟨x30, hw31, bb32, k33⟩ := new_zp x1
        have q34 : Old b1 x30 := q3.trans (k33 _)
        (rw [if_pos (by kernel_rfl)]; go_simp; rw [← hw31])
        clear hw31
        refine hK.out _ _ (F0_b1 x30 q34).1 (fun hHeld => ?_)
        clear hK K
        try simp only [Act.put, Array.getInternal_eq_getElem, List.getElem_toArray, List.getElem_cons_zero, List.getElem_cons_succ, List.setIfInBounds_toArray, List.set_cons_zero, List.set_cons_succ]
        refine wpAnyH_ready (rs := [4]) (by kernel_rfl) (by simp) ?_
        refine AllReadyH.cons rfl (fun K hK => ?_) AllReadyH.nil
        · (rw [if_pos (by kernel_rfl)]; go_simp; go_at_call 12; refine ((HWi _).out).mono ?_; rintro e x36 ⟨rfl, k37⟩)
          have q38 : Old b1 x36 := q34.trans (k37 _)
          have bb39 := Blk.keeps bb32 (k37 (fun _ => False)) (fun z => z)
          refine hK.out _ _ (F0_b1 x36 q38).1 (fun hHeld => ?_)
          clear hK K
          try simp only [Act.put, Array.getInternal_eq_getElem, List.getElem_toArray, List.getElem_cons_zero, List.getElem_cons_succ, List.setIfInBounds_toArray, List.set_cons_zero, List.set_cons_succ]
          refine wpAnyH_ready (rs := [5]) (by kernel_rfl) (by simp) ?_
          refine AllReadyH.cons rfl (fun K hK => ?_) AllReadyH.nil
          · (rw [if_pos (by kernel_rfl)]; go_simp; go_at_call 11; refine ((HOf _).out).mono ?_; rintro e x40 ⟨rfl, k41⟩)
            have q42 : Old b1 x40 := q38.trans (k41 _)
            have bb43 := Blk.keeps bb39 (k41 (fun _ => False)) (fun z => z)
            refine hK.out _ _ (F0_b1 x40 q42).1 (fun hHeld => ?_)
            clear hK K
            try simp only [Act.put, Array.getInternal_eq_getElem, List.getElem_toArray, List.getElem_cons_zero, List.getElem_cons_succ, List.setIfInBounds_toArray, List.set_cons_zero, List.set_cons_succ]
            refine wpAnyH_take (i := 6) (v := ?_) rfl (by kernel_rfl) (by kernel_rfl) (by kernel_rfl) (fun _ _ _ h => h) (Or.inl ⟨by kernel_rfl, ?_⟩) (by assumption) ?_
            rotate_left
            · (intro w hSw; (try dsimp only at hSw); go_simp) <;> (try (with_reducible rfl))
            try simp only [Act.put, Array.getInternal_eq_getElem, List.getElem_toArray, List.getElem_cons_zero, List.getElem_cons_succ, List.setIfInBounds_toArray, List.set_cons_zero, List.set_cons_succ]
            refine wpAnyH_take (i := 7) (v := ?_) rfl (by kernel_rfl) (by kernel_rfl) (by kernel_rfl) (fun _ _ _ h => h) (Or.inl ⟨by kernel_rfl, ?_⟩) (by assumption) ?_
            rotate_left
            · (intro w hSw; (try dsimp only at hSw); go_simp) <;> (try (with_reducible rfl))
            try simp only [Act.put, Array.getInternal_eq_getElem, List.getElem_toArray, List.getElem_cons_zero, List.getElem_cons_succ, List.setIfInBounds_toArray, List.set_cons_zero, List.set_cons_succ]
            refine wpAnyH_take (i := 8) (v := ?_) rfl (by kernel_rfl) (by kernel_rfl) (by kernel_rfl) (fun _ _ _ h => h) (Or.inl ⟨by kernel_rfl, ?_⟩) (by assumption) ?_
            rotate_left
            · (intro w hSw; (try dsimp only at hSw); go_simp) <;> (try (with_reducible rfl))
            try simp only [Act.put, Array.getInternal_eq_getElem, List.getElem_toArray, List.getElem_cons_zero, List.getElem_cons_succ, List.setIfInBounds_toArray, List.set_cons_zero, List.set_cons_succ]
            obtain ⟨t1, t2, t3, t5, t6⟩ := over_px (c := p) hpw bb43 rfl
            obtain ⟨x45, hs44⟩ : ∃ y, y = x40.setCells x1.heap.size 0 (pxc p) := ⟨_, rfl⟩
            rw [← hs44] at t5 t6
            have x45q : Old b1 x45 := old_over q42 lt35 t6
            have x45b := t5
            rw [HCP.out] at t1 t2 t3 hs44 x45b
            refine wpAnyH_ready (rs := [10]) (by kernel_rfl) (by simp) ?_
            refine AllReadyH.cons rfl (fun K hK => ?_) AllReadyH.nil
            (rw [if_pos (by kernel_rfl)]; simp only [Array.getInternal_eq_getElem, List.getElem_toArray, List.getElem_cons_zero, List.getElem_cons_succ]; refine wp_store_mid 28 _ _ rfl x1.heap.size 0 CP.toArray rfl rfl t1 t2 t3 ?_; simp only [List.toList_toArray, Act.put]; rw [← hs44])
            refine hK.out _ _ (F0_b1 x45 x45q).1 (fun hHeld => ?_)
            clear hK K
            try simp only [Act.put, Array.getInternal_eq_getElem, List.getElem_toArray, List.getElem_cons_zero, List.getElem_cons_succ, List.setIfInBounds_toArray, List.set_cons_zero, List.set_cons_succ]
            refine wpAnyH_take (i := 11) (v := ?_) rfl (by kernel_rfl) (by kernel_rfl) (by kernel_rfl) (fun _ _ _ h => h) (Or.inl ⟨by kernel_rfl, ?_⟩) (by assumption) ?_
            rotate_left
            · (intro w hSw; (try dsimp only at hSw); go_simp) <;> (try (with_reducible rfl))
            try simp only [Act.put, Array.getInternal_eq_getElem, List.getElem_toArray, List.getElem_cons_zero, List.getElem_cons_succ, List.setIfInBounds_toArray, List.set_cons_zero, List.set_cons_succ]
            refine wpAnyH_done ?_ ?_ _
            · kernel_rfl
            clear hHeld
            go_wp2_with fail
            go_meet
            exact ⟨_, rfl, rfl, x45q, x45b⟩




    · have lt51 : b1.heap.size ≤ xd.heap.size := kxd.size
      obtain ⟨x46, hw47, bb48, k49⟩ := new_zp xd
      have q50 : Old b1 x46 := kxd.trans (k49 _)
      (rw [if_pos (by kernel_rfl)]; go_simp; rw [← hw47])
      clear hw47
      refine hK.out _ _ (F0_b1 x46 q50).1 (fun hHeld => ?_)
      clear hK K
      try simp only [Act.put, Array.getInternal_eq_getElem, List.getElem_toArray, List.getElem_cons_zero, List.getElem_cons_succ, List.setIfInBounds_toArray, List.set_cons_zero, List.set_cons_succ]
      refine wpAnyH_ready (rs := [3]) (by kernel_rfl) (by simp) ?_
      refine AllReadyH.cons rfl (fun K hK => ?_) AllReadyH.nil
      · (rw [if_pos (by kernel_rfl)]; go_simp; go_at_call 13; refine ((HWd _).out).mono ?_; rintro e x52 ⟨rfl, k53⟩)
        have q54 : Old b1 x52 := q50.trans (k53 _)
        have bb55 := Blk.keeps bb48 (k53 (fun _ => False)) (fun z => z)
        refine hK.out _ _ (F0_b1 x52 q54).1 (fun hHeld => ?_)
        clear hK K
        try simp only [Act.put, Array.getInternal_eq_getElem, List.getElem_toArray, List.getElem_cons_zero, List.getElem_cons_succ, List.setIfInBounds_toArray, List.set_cons_zero, List.set_cons_succ]
        refine wpAnyH_ready (rs := [4]) (by kernel_rfl) (by simp) ?_
        refine AllReadyH.cons rfl (fun K hK => ?_) AllReadyH.nil
        · (rw [if_pos (by kernel_rfl)]; go_simp; go_at_call 12; refine ((HWi _).out).mono ?_; rintro e x56 ⟨rfl, k57⟩)
          have q58 : Old b1 x56 := q54.trans (k57 _)
          have bb59 := Blk.keeps bb55 (k57 (fun _ => False)) (fun z => z)
          refine hK.out _ _ (F0_b1 x56 q58).1 (fun hHeld => ?_)
          clear hK K
          try simp only [Act.put, Array.getInternal_eq_getElem, List.getElem_toArray, List.getElem_cons_zero, List.getElem_cons_succ, List.setIfInBounds_toArray, List.set_cons_zero, List.set_cons_succ]
          refine wpAnyH_ready (rs := [5]) (by kernel_rfl) (by simp) ?_
          refine AllReadyH.cons rfl (fun K hK => ?_) AllReadyH.nil
          · (rw [if_pos (by kernel_rfl)]; go_simp; go_at_call 11; refine ((HOf _).out).mono ?_; rintro e x60 ⟨rfl, k61⟩)
            have q62 : Old b1 x60 := q58.trans (k61 _)
            have bb63 := Blk.keeps bb59 (k61 (fun _ => False)) (fun z => z)
            refine hK.out _ _ (F0_b1 x60 q62).1 (fun hHeld => ?_)
            clear hK K
            try simp only [Act.put, Array.getInternal_eq_getElem, List.getElem_toArray, List.getElem_cons_zero, List.getElem_cons_succ, List.setIfInBounds_toArray, List.set_cons_zero, List.set_cons_succ]
            refine wpAnyH_take (i := 6) (v := ?_) rfl (by kernel_rfl) (by kernel_rfl) (by kernel_rfl) (fun _ _ _ h => h) (Or.inl ⟨by kernel_rfl, ?_⟩) (by assumption) ?_
            rotate_left
            · (intro w hSw; (try dsimp only at hSw); go_simp) <;> (try (with_reducible rfl))
            try simp only [Act.put, Array.getInternal_eq_getElem, List.getElem_toArray, List.getElem_cons_zero, List.getElem_cons_succ, List.setIfInBounds_toArray, List.set_cons_zero, List.set_cons_succ]
            refine wpAnyH_take (i := 7) (v := ?_) rfl (by kernel_rfl) (by kernel_rfl) (by kernel_rfl) (fun _ _ _ h => h) (Or.inl ⟨by kernel_rfl, ?_⟩) (by assumption) ?_
            rotate_left
            · (intro w hSw; (try dsimp only at hSw); go_simp) <;> (try (with_reducible rfl))
            try simp only [Act.put, Array.getInternal_eq_getElem, List.getElem_toArray, List.getElem_cons_zero, List.getElem_cons_succ, List.setIfInBounds_toArray, List.set_cons_zero, List.set_cons_succ]
            refine wpAnyH_take (i := 8) (v := ?_) rfl (by kernel_rfl) (by kernel_rfl) (by kernel_rfl) (fun _ _ _ h => h) (Or.inl ⟨by kernel_rfl, ?_⟩) (by assumption) ?_
            rotate_left
            · (intro w hSw; (try dsimp only at hSw); go_simp) <;> (try (with_reducible rfl))
            try simp only [Act.put, Array.getInternal_eq_getElem, List.getElem_toArray, List.getElem_cons_zero, List.getElem_cons_succ, List.setIfInBounds_toArray, List.set_cons_zero, List.set_cons_succ]
            obtain ⟨t1, t2, t3, t5, t6⟩ := over_px (c := p) hpw bb63 rfl
            obtain ⟨x65, hs64⟩ : ∃ y, y = x60.setCells xd.heap.size 0 (pxc p) := ⟨_, rfl⟩
            rw [← hs64] at t5 t6
            have x65q : Old b1 x65 := old_over q62 lt51 t6
            have x65b := t5
            rw [HCP.out] at t1 t2 t3 hs64 x65b
            refine wpAnyH_ready (rs := [10]) (by kernel_rfl) (by simp) ?_
            refine AllReadyH.cons rfl (fun K hK => ?_) AllReadyH.nil
            (rw [if_pos (by kernel_rfl)]; simp only [Array.getInternal_eq_getElem, List.getElem_toArray, List.getElem_cons_zero, List.getElem_cons_succ]; refine wp_store_mid 28 _ _ rfl xd.heap.size 0 CP.toArray rfl rfl t1 t2 t3 ?_; simp only [List.toList_toArray, Act.put]; rw [← hs64])
            refine hK.out _ _ (F0_b1 x65 x65q).1 (fun hHeld => ?_)
            clear hK K
            try simp only [Act.put, Array.getInternal_eq_getElem, List.getElem_toArray, List.getElem_cons_zero, List.getElem_cons_succ, List.setIfInBounds_toArray, List.set_cons_zero, List.set_cons_succ]
            refine wpAnyH_take (i := 11) (v := ?_) rfl (by kernel_rfl) (by kernel_rfl) (by kernel_rfl) (fun _ _ _ h => h) (Or.inl ⟨by kernel_rfl, ?_⟩) (by assumption) ?_
            rotate_left
            · (intro w hSw; (try dsimp only at hSw); go_simp) <;> (try (with_reducible rfl))
            try simp only [Act.put, Array.getInternal_eq_getElem, List.getElem_toArray, List.getElem_cons_zero, List.getElem_cons_succ, List.setIfInBounds_toArray, List.set_cons_zero, List.set_cons_succ]
            refine wpAnyH_done ?_ ?_ _
            · kernel_rfl
            clear hHeld
            go_wp2_with fail
            go_meet
            exact ⟨_, rfl, rfl, x65q, x65b⟩





  case rest =>
  obtain ⟨B, rfl, rfl, kwc, bwc⟩ := hcut
  have K2 : Hid (∀ S, Keeps S w wc) := Lib.hid (fun S => (Kb1.out S).trans (kwc.all S))
  rw [← HCP.out] at bwc
  have HEV := fun (wq : World) (hC : Old wc wq) => HEV0.out.keeps (fun S => (K2.out S).trans (hC.all S))
  have F0_c := fun (wq : World) (hC : Old wc wq) => F0_b1 wq (kwc.trans hC)
  have F1_c := fun (wq : World) (hC : Old wc wq) => F1 wq (kwc.trans hC)
  have F2 := px_facts hpw bwc
  have Z2 := Lib.hid (px_sz hpw)
  have ZA2 := Lib.hid (ad_sz hpw)
  rw [HCP.out] at F2 Z2
  rw [HAP.out] at F2 ZA2
  clear kwc bwc
  go_wp2_with ((with_reducible show wpList _ _ _ (⟨some 52, _, _, _, _, _⟩ :: _) _ _); refine x_list (Old.refl wc) ?_)
  --@0
  refine x_load (by kernel_rfl) 24 _ rfl wb.heap.size 0 rfl CA _ (fun wq hC => (F1_c wq hC).1) Tryz.underlying24 rfl Z1.out ?_
  try simp only [Act.put, Array.getInternal_eq_getElem, List.getElem_toArray, List.getElem_cons_zero, List.getElem_cons_succ, List.setIfInBounds_toArray, List.set_cons_zero, List.set_cons_succ]
  --@1
  refine x_load (by kernel_rfl) 24 _ rfl w.heap.size 0 rfl CA _ (fun wq hC => (F0_c wq hC).1) Tryz.underlying24 rfl Z0.out ?_
  try simp only [Act.put, Array.getInternal_eq_getElem, List.getElem_toArray, List.getElem_cons_zero, List.getElem_cons_succ, List.setIfInBounds_toArray, List.set_cons_zero, List.set_cons_succ]
  --@2
  refine x_any (by kernel_rfl) ?_ (fun wq hC => ?_) ?_
  rotate_left
  · (have hN := HNA; go_simp) <;> (try (with_reducible rfl))
  try simp only [Act.put, Array.getInternal_eq_getElem, List.getElem_toArray, List.getElem_cons_zero, List.getElem_cons_succ, List.setIfInBounds_toArray, List.set_cons_zero, List.set_cons_succ]
  --@3
  refine x_any (by kernel_rfl) ?_ (fun wq hC => ?_) ?_
  rotate_left
  · (go_simp) <;> (try (with_reducible rfl))
  try simp only [Act.put, Array.getInternal_eq_getElem, List.getElem_toArray, List.getElem_cons_zero, List.getElem_cons_succ, List.setIfInBounds_toArray, List.set_cons_zero, List.set_cons_succ]
  refine x_nil ?_
  intro wd kwd
  go_wp2_with ((with_reducible show wpList _ _ _ (⟨some 57, _, _, _, _, _⟩ :: _) _ _); refine x_list kwd ?_)
  --@0
  refine x_load (by kernel_rfl) 28 _ rfl B 0 rfl CP _ (fun wq hC => (F2 wq hC).1) Tryz.underlying28 rfl Z2.out ?_
  try simp only [Act.put, Array.getInternal_eq_getElem, List.getElem_toArray, List.getElem_cons_zero, List.getElem_cons_succ, List.setIfInBounds_toArray, List.set_cons_zero, List.set_cons_succ]
  --@1
  refine x_call (by kernel_rfl) (fun wq hC => old_call hC (H7 wq (HEV wq hC)).out) (fun wq => ?_) ?_
  · go_simp <;> (try (with_reducible rfl))
  try simp only [Act.put, Array.getInternal_eq_getElem, List.getElem_toArray, List.getElem_cons_zero, List.getElem_cons_succ, List.setIfInBounds_toArray, List.set_cons_zero, List.set_cons_succ]
  --@2
  refine x_any (by kernel_rfl) ?_ (fun wq hC => ?_) ?_
  rotate_left
  · (go_simp) <;> (try (with_reducible rfl))
  try simp only [Act.put, Array.getInternal_eq_getElem, List.getElem_toArray, List.getElem_cons_zero, List.getElem_cons_succ, List.setIfInBounds_toArray, List.set_cons_zero, List.set_cons_succ]
  --@3
  refine x_any (by kernel_rfl) ?_ (fun wq hC => ?_) ?_
  rotate_left
  · (go_simp) <;> (try (with_reducible rfl))
  try simp only [Act.put, Array.getInternal_eq_getElem, List.getElem_toArray, List.getElem_cons_zero, List.getElem_cons_succ, List.setIfInBounds_toArray, List.set_cons_zero, List.set_cons_succ]
  --@4
  refine x_any (by kernel_rfl) ?_ (fun wq hC => ?_) ?_
  rotate_left
  · (go_simp) <;> (try (with_reducible rfl))
  try simp only [Act.put, Array.getInternal_eq_getElem, List.getElem_toArray, List.getElem_cons_zero, List.getElem_cons_succ, List.setIfInBounds_toArray, List.set_cons_zero, List.set_cons_succ]
  --@5
  refine x_any (by kernel_rfl) ?_ (fun wq hC => ?_) ?_
  rotate_left
  · (go_simp) <;> (try (with_reducible rfl))
  try simp only [Act.put, Array.getInternal_eq_getElem, List.getElem_toArray, List.getElem_cons_zero, List.getElem_cons_succ, List.setIfInBounds_toArray, List.set_cons_zero, List.set_cons_succ]
  --@6
  refine x_any (by kernel_rfl) ?_ (fun wq hC => ?_) ?_
  rotate_left
  · (go_simp) <;> (try (with_reducible rfl))
  try simp only [Act.put, Array.getInternal_eq_getElem, List.getElem_toArray, List.getElem_cons_zero, List.getElem_cons_succ, List.setIfInBounds_toArray, List.set_cons_zero, List.set_cons_succ]
  refine x_nil ?_
  intro we kwe
  go_wp2_with ((with_reducible show wpList _ _ _ (⟨some 63, _, _, _, _, _⟩ :: _) _ _); refine x_list kwe ?_)
  --@0
  refine x_call (by kernel_rfl) (fun wq hC => old_call hC (H8 wq (HEV wq hC)).out) (fun wq => ?_) ?_
  · go_simp <;> (try (with_reducible rfl))
  try simp only [Act.put, Array.getInternal_eq_getElem, List.getElem_toArray, List.getElem_cons_zero, List.getElem_cons_succ, List.setIfInBounds_toArray, List.set_cons_zero, List.set_cons_succ]
  --@1
  refine x_any (by kernel_rfl) ?_ (fun wq hC => ?_) ?_
  rotate_left
  · (go_simp) <;> (try (with_reducible rfl))
  try simp only [Act.put, Array.getInternal_eq_getElem, List.getElem_toArray, List.getElem_cons_zero, List.getElem_cons_succ, List.setIfInBounds_toArray, List.set_cons_zero, List.set_cons_succ]
  --@2
  refine x_any (by kernel_rfl) ?_ (fun wq hC => ?_) ?_
  rotate_left
  · (go_simp) <;> (try (with_reducible rfl))
  try simp only [Act.put, Array.getInternal_eq_getElem, List.getElem_toArray, List.getElem_cons_zero, List.getElem_cons_succ, List.setIfInBounds_toArray, List.set_cons_zero, List.set_cons_succ]
  --@3
  refine x_any (by kernel_rfl) ?_ (fun wq hC => ?_) ?_
  rotate_left
  · (go_simp) <;> (try (with_reducible rfl))
  try simp only [Act.put, Array.getInternal_eq_getElem, List.getElem_toArray, List.getElem_cons_zero, List.getElem_cons_succ, List.setIfInBounds_toArray, List.set_cons_zero, List.set_cons_succ]
  refine x_stop ?_
  intro wf kwf
  obtain ⟨b2, hb2, htb2, bbb2, kbb2⟩ := box_px wf p hpw
  have HTb2 := Lib.hid htb2
  have HBb2 := Lib.hid hb2
  have KOb2 : Old wc b2 := kwf.trans (kbb2 _)
  have Kb2 : Hid (∀ S, Keeps S w b2) := Lib.hid (fun S => (K2.out S).trans (KOb2.all S))
  have HEV := fun (wq : World) (hC : Old b2 wq) => HEV0.out.keeps (fun S => (Kb2.out S).trans (hC.all S))
  have F0_b2 := fun (wq : World) (hC : Old b2 wq) => F0_c wq (KOb2.trans hC)
  have F1_b2 := fun (wq : World) (hC : Old b2 wq) => F1_c wq (KOb2.trans hC)
  have F2_b2 := fun (wq : World) (hC : Old b2 wq) => F2 wq (KOb2.trans hC)
  have F3 := px_facts hpw bbb2
  have Z3 := Lib.hid (px_sz hpw)
  have ZA3 := Lib.hid (ad_sz hpw)
  clear hb2 htb2 bbb2 kbb2
  rw [HCP.out] at F3 Z3 HTb2 HBb2
  rw [HAP.out] at F3 ZA3
  go_wp2_with (first | (refine wpList_store_mid rfl 28 _ _ rfl wf.heap.size 0 CP.toArray rfl rfl HTb2.out.1 HTb2.out.2.1 HTb2.out.2.2 ?_; rw [← HBb2.out]) | ((with_reducible show wpList _ _ _ (⟨some 73, _, _, _, _, _⟩ :: _) _ _); refine x_list (Old.refl b2) ?_))
  --@0
  refine x_load (by kernel_rfl) 28 _ rfl wf.heap.size 0 rfl CP _ (fun wq hC => (F3 wq hC).1) Tryz.underlying28 rfl Z3.out ?_
  try simp only [Act.put, Array.getInternal_eq_getElem, List.getElem_toArray, List.getElem_cons_zero, List.getElem_cons_succ, List.setIfInBounds_toArray, List.set_cons_zero, List.set_cons_succ]
  --@1
  refine x_load (by kernel_rfl) 28 _ rfl B 0 rfl CP _ (fun wq hC => (F2_b2 wq hC).1) Tryz.underlying28 rfl Z2.out ?_
  try simp only [Act.put, Array.getInternal_eq_getElem, List.getElem_toArray, List.getElem_cons_zero, List.getElem_cons_succ, List.setIfInBounds_toArray, List.set_cons_zero, List.set_cons_succ]
  --@2
  refine x_any (by kernel_rfl) ?_ (fun wq hC => ?_) ?_
  rotate_left
  · (have hN := HNP; go_simp) <;> (try (with_reducible rfl))
  try simp only [Act.put, Array.getInternal_eq_getElem, List.getElem_toArray, List.getElem_cons_zero, List.getElem_cons_succ, List.setIfInBounds_toArray, List.set_cons_zero, List.set_cons_succ]
  --@3
  refine x_any (by kernel_rfl) ?_ (fun wq hC => ?_) ?_
  rotate_left
  · (go_simp) <;> (try (with_reducible rfl))
  try simp only [Act.put, Array.getInternal_eq_getElem, List.getElem_toArray, List.getElem_cons_zero, List.getElem_cons_succ, List.setIfInBounds_toArray, List.set_cons_zero, List.set_cons_succ]
  refine x_nil ?_
  intro wg kwg
  go_wp2_with ((with_reducible show wpList _ _ _ (⟨some 79, _, _, _, _, _⟩ :: _) _ _); refine x_list kwg ?_)
  --@0
  refine x_call (by kernel_rfl) (fun wq hC => old_call hC (H11 wq (HEV wq hC)).out) (fun wq => ?_) ?_
  · go_simp <;> (try (with_reducible rfl))
  try simp only [Act.put, Array.getInternal_eq_getElem, List.getElem_toArray, List.getElem_cons_zero, List.getElem_cons_succ, List.setIfInBounds_toArray, List.set_cons_zero, List.set_cons_succ]
  --@1
  refine x_any (by kernel_rfl) ?_ (fun wq hC => ?_) ?_
  rotate_left
  · (go_simp) <;> (try (with_reducible rfl))
  try simp only [Act.put, Array.getInternal_eq_getElem, List.getElem_toArray, List.getElem_cons_zero, List.getElem_cons_succ, List.setIfInBounds_toArray, List.set_cons_zero, List.set_cons_succ]
  --@2
  refine x_any (by kernel_rfl) ?_ (fun wq hC => ?_) ?_
  rotate_left
  · (go_simp) <;> (try (with_reducible rfl))
  try simp only [Act.put, Array.getInternal_eq_getElem, List.getElem_toArray, List.getElem_cons_zero, List.getElem_cons_succ, List.setIfInBounds_toArray, List.set_cons_zero, List.set_cons_succ]
  --@3
  refine x_any (by kernel_rfl) ?_ (fun wq hC => ?_) ?_
  rotate_left
  · (go_simp) <;> (try (with_reducible rfl))
  try simp only [Act.put, Array.getInternal_eq_getElem, List.getElem_toArray, List.getElem_cons_zero, List.getElem_cons_succ, List.setIfInBounds_toArray, List.set_cons_zero, List.set_cons_succ]
  refine x_stop ?_
  intro wi kwi
  obtain ⟨b3, hb3, htb3, bbb3, kbb3⟩ := box_ad wi c hcw
  have HTb3 := Lib.hid htb3
  have HBb3 := Lib.hid hb3
  have KOb3 : Old b2 b3 := kwi.trans (kbb3 _)
  have Kb3 : Hid (∀ S, Keeps S w b3) := Lib.hid (fun S => (Kb2.out S).trans (KOb3.all S))
  have HEV := fun (wq : World) (hC : Old b3 wq) => HEV0.out.keeps (fun S => (Kb3.out S).trans (hC.all S))
  have F0_b3 := fun (wq : World) (hC : Old b3 wq) => F0_b2 wq (KOb3.trans hC)
  have F1_b3 := fun (wq : World) (hC : Old b3 wq) => F1_b2 wq (KOb3.trans hC)
  have F2_b3 := fun (wq : World) (hC : Old b3 wq) => F2_b2 wq (KOb3.trans hC)
  have F3_b3 := fun (wq : World) (hC : Old b3 wq) => F3 wq (KOb3.trans hC)
  have F4 := ad_facts bbb3
  have Z4 := Lib.hid (ad_sz hcw)
  clear hb3 htb3 bbb3 kbb3
  rw [HCC.out] at F4 Z4 HTb3 HBb3
  have HEV := fun (wq : World) (hC : Old b3 wq) => HEV0.out.keeps (fun S => (Kb3.out S).trans (hC.all S))
  by_cases hec : ec = 0
  · subst hec
    by_cases her : er = 0
    · subst her
      obtain ⟨hoc, htc⟩ := HDA.out (by trivial)
      rw [txA_yes hoc, htc, ← HSS.out] at H13
      rw [show errA c = 0 from if_pos hoc] at H14
      clear hoc htc
      go_wp2_with (first | (refine wpList_store_mid rfl 24 _ _ rfl wi.heap.size 0 CC.toArray rfl rfl HTb3.out.1 HTb3.out.2.1 HTb3.out.2.2 ?_; rw [← HBb3.out]) | ((with_reducible show wpList _ _ _ (⟨some 85, _, _, _, _, _⟩ :: _) _ _); refine x_list (Old.refl b3) ?_))
      --@0
      refine x_load (by kernel_rfl) 24 _ rfl wi.heap.size 0 rfl CC _ (fun wq hC => (F4 wq hC).1) Tryz.underlying24 rfl Z4.out ?_
      try simp only [Act.put, Array.getInternal_eq_getElem, List.getElem_toArray, List.getElem_cons_zero, List.getElem_cons_succ, List.setIfInBounds_toArray, List.set_cons_zero, List.set_cons_succ]
      --@1
      refine x_call (by kernel_rfl) (fun wq hC => old_call hC (H13 wq (HEV wq hC)).out) (fun wq => ?_) ?_
      · go_simp <;> (try (with_reducible rfl))
      try simp only [Act.put, Array.getInternal_eq_getElem, List.getElem_toArray, List.getElem_cons_zero, List.getElem_cons_succ, List.setIfInBounds_toArray, List.set_cons_zero, List.set_cons_succ]
      --@2
      refine x_any (by kernel_rfl) ?_ (fun wq hC => ?_) ?_
      rotate_left
      · (go_simp) <;> (try (with_reducible rfl))
      try simp only [Act.put, Array.getInternal_eq_getElem, List.getElem_toArray, List.getElem_cons_zero, List.getElem_cons_succ, List.setIfInBounds_toArray, List.set_cons_zero, List.set_cons_succ]
      --@3
      refine x_any (by kernel_rfl) ?_ (fun wq hC => ?_) ?_
      rotate_left
      · (go_simp) <;> (try (with_reducible rfl))
      try simp only [Act.put, Array.getInternal_eq_getElem, List.getElem_toArray, List.getElem_cons_zero, List.getElem_cons_succ, List.setIfInBounds_toArray, List.set_cons_zero, List.set_cons_succ]
      --@4
      refine x_any (by kernel_rfl) ?_ (fun wq hC => ?_) ?_
      rotate_left
      · (go_simp) <;> (try (with_reducible rfl))
      try simp only [Act.put, Array.getInternal_eq_getElem, List.getElem_toArray, List.getElem_cons_zero, List.getElem_cons_succ, List.setIfInBounds_toArray, List.set_cons_zero, List.set_cons_succ]
      --@5
      refine x_any (by kernel_rfl) ?_ (fun wq hC => ?_) ?_
      rotate_left
      · (go_simp) <;> (try (with_reducible rfl))
      try simp only [Act.put, Array.getInternal_eq_getElem, List.getElem_toArray, List.getElem_cons_zero, List.getElem_cons_succ, List.setIfInBounds_toArray, List.set_cons_zero, List.set_cons_succ]
      --@6
      refine x_any (by kernel_rfl) ?_ (fun wq hC => ?_) ?_
      rotate_left
      · (go_simp) <;> (try (with_reducible rfl))
      try simp only [Act.put, Array.getInternal_eq_getElem, List.getElem_toArray, List.getElem_cons_zero, List.getElem_cons_succ, List.setIfInBounds_toArray, List.set_cons_zero, List.set_cons_succ]
      refine x_nil ?_
      intro wj kwj
      go_wp2_with ((with_reducible show wpList _ _ _ (⟨some 97, _, _, _, _, _⟩ :: _) _ _); refine x_list kwj ?_)
      --@0
      refine x_load (by kernel_rfl) 24 _ rfl wi.heap.size 0 rfl CC _ (fun wq hC => (F4 wq hC).1) Tryz.underlying24 rfl Z4.out ?_
      try simp only [Act.put, Array.getInternal_eq_getElem, List.getElem_toArray, List.getElem_cons_zero, List.getElem_cons_succ, List.setIfInBounds_toArray, List.set_cons_zero, List.set_cons_succ]
      --@1
      refine x_call (by kernel_rfl) (fun wq hC => old_call hC (H14 wq).out) (fun wq => ?_) ?_
      · go_simp <;> (try (with_reducible rfl))
      try simp only [Act.put, Array.getInternal_eq_getElem, List.getElem_toArray, List.getElem_cons_zero, List.getElem_cons_succ, List.setIfInBounds_toArray, List.set_cons_zero, List.set_cons_succ]
      --@2
      refine x_any (by kernel_rfl) ?_ (fun wq hC => ?_) ?_
      rotate_left
      · (go_simp) <;> (try (with_reducible rfl))
      try simp only [Act.put, Array.getInternal_eq_getElem, List.getElem_toArray, List.getElem_cons_zero, List.getElem_cons_succ, List.setIfInBounds_toArray, List.set_cons_zero, List.set_cons_succ]
      --@3
      refine x_any (by kernel_rfl) ?_ (fun wq hC => ?_) ?_
      rotate_left
      · (go_simp) <;> (try (with_reducible rfl))
      try simp only [Act.put, Array.getInternal_eq_getElem, List.getElem_toArray, List.getElem_cons_zero, List.getElem_cons_succ, List.setIfInBounds_toArray, List.set_cons_zero, List.set_cons_succ]
      refine x_nil ?_
      intro wk kwk
      go_wp2_with ((with_reducible show wpList _ _ _ (⟨some 103, _, _, _, _, _⟩ :: _) _ _); refine x_list kwk ?_)
      --@0
      refine x_call (by kernel_rfl) (fun wq hC => old_call hC (H16 wq (HEV wq hC)).out) (fun wq => ?_) ?_
      · go_simp <;> (try (with_reducible rfl))
      try simp only [Act.put, Array.getInternal_eq_getElem, List.getElem_toArray, List.getElem_cons_zero, List.getElem_cons_succ, List.setIfInBounds_toArray, List.set_cons_zero, List.set_cons_succ]
      --@1
      refine x_any (by kernel_rfl) ?_ (fun wq hC => ?_) ?_
      rotate_left
      · (go_simp) <;> (try (with_reducible rfl))
      try simp only [Act.put, Array.getInternal_eq_getElem, List.getElem_toArray, List.getElem_cons_zero, List.getElem_cons_succ, List.setIfInBounds_toArray, List.set_cons_zero, List.set_cons_succ]
      --@2
      refine x_any (by kernel_rfl) ?_ (fun wq hC => ?_) ?_
      rotate_left
      · (go_simp) <;> (try (with_reducible rfl))
      try simp only [Act.put, Array.getInternal_eq_getElem, List.getElem_toArray, List.getElem_cons_zero, List.getElem_cons_succ, List.setIfInBounds_toArray, List.set_cons_zero, List.set_cons_succ]
      --@3
      refine x_any (by kernel_rfl) ?_ (fun wq hC => ?_) ?_
      rotate_left
      · (go_simp) <;> (try (with_reducible rfl))
      try simp only [Act.put, Array.getInternal_eq_getElem, List.getElem_toArray, List.getElem_cons_zero, List.getElem_cons_succ, List.setIfInBounds_toArray, List.set_cons_zero, List.set_cons_succ]
      refine x_stop ?_
      intro wl kwl
      obtain ⟨b4, hb4, htb4, bbb4, kbb4⟩ := box_px wl r hrw
      have HTb4 := Lib.hid htb4
      have HBb4 := Lib.hid hb4
      have KOb4 : Old b3 b4 := kwl.trans (kbb4 _)
      have Kb4 : Hid (∀ S, Keeps S w b4) := Lib.hid (fun S => (Kb3.out S).trans (KOb4.all S))
      have HEV := fun (wq : World) (hC : Old b4 wq) => HEV0.out.keeps (fun S => (Kb4.out S).trans (hC.all S))
      have F0_b4 := fun (wq : World) (hC : Old b4 wq) => F0_b3 wq (KOb4.trans hC)
      have F1_b4 := fun (wq : World) (hC : Old b4 wq) => F1_b3 wq (KOb4.trans hC)
      have F2_b4 := fun (wq : World) (hC : Old b4 wq) => F2_b3 wq (KOb4.trans hC)
      have F3_b4 := fun (wq : World) (hC : Old b4 wq) => F3_b3 wq (KOb4.trans hC)
      have F4_b4 := fun (wq : World) (hC : Old b4 wq) => F4 wq (KOb4.trans hC)
      have F5 := px_facts hrw bbb4
      have Z5 := Lib.hid (px_sz hrw)
      have ZA5 := Lib.hid (ad_sz hrw)
      clear hb4 htb4 bbb4 kbb4
      rw [HCR.out] at F5 Z5 HTb4 HBb4
      rw [HAR.out] at F5 ZA5
      have HEV := fun (wq : World) (hC : Old b4 wq) => HEV0.out.keeps (fun S => (Kb4.out S).trans (hC.all S))
      obtain ⟨hor, htr⟩ := HDP.out (by trivial)
      rw [txP_yes hor, htr, ← HSS.out] at H18
      rw [show errP r = 0 from if_pos hor] at H19
      clear hor htr
      go_wp2_with (first | (refine wpList_store_mid rfl 28 _ _ rfl wl.heap.size 0 CR.toArray rfl rfl HTb4.out.1 HTb4.out.2.1 HTb4.out.2.2 ?_; rw [← HBb4.out]) | ((with_reducible show wpList _ _ _ (⟨some 109, _, _, _, _, _⟩ :: _) _ _); refine x_list (Old.refl b4) ?_))
      --@0
      refine x_load (by kernel_rfl) 28 _ rfl wl.heap.size 0 rfl CR _ (fun wq hC => (F5 wq hC).1) Tryz.underlying28 rfl Z5.out ?_
      try simp only [Act.put, Array.getInternal_eq_getElem, List.getElem_toArray, List.getElem_cons_zero, List.getElem_cons_succ, List.setIfInBounds_toArray, List.set_cons_zero, List.set_cons_succ]
      --@1
      refine x_call (by kernel_rfl) (fun wq hC => old_call hC (H18 wq (HEV wq hC)).out) (fun wq => ?_) ?_
      · go_simp <;> (try (with_reducible rfl))
      try simp only [Act.put, Array.getInternal_eq_getElem, List.getElem_toArray, List.getElem_cons_zero, List.getElem_cons_succ, List.setIfInBounds_toArray, List.set_cons_zero, List.set_cons_succ]
      --@2
      refine x_any (by kernel_rfl) ?_ (fun wq hC => ?_) ?_
      rotate_left
      · (go_simp) <;> (try (with_reducible rfl))
      try simp only [Act.put, Array.getInternal_eq_getElem, List.getElem_toArray, List.getElem_cons_zero, List.getElem_cons_succ, List.setIfInBounds_toArray, List.set_cons_zero, List.set_cons_succ]
      --@3
      refine x_any (by kernel_rfl) ?_ (fun wq hC => ?_) ?_
      rotate_left
      · (go_simp) <;> (try (with_reducible rfl))
      try simp only [Act.put, Array.getInternal_eq_getElem, List.getElem_toArray, List.getElem_cons_zero, List.getElem_cons_succ, List.setIfInBounds_toArray, List.set_cons_zero, List.set_cons_succ]
      --@4
      refine x_any (by kernel_rfl) ?_ (fun wq hC => ?_) ?_
      rotate_left
      · (go_simp) <;> (try (with_reducible rfl))
      try simp only [Act.put, Array.getInternal_eq_getElem, List.getElem_toArray, List.getElem_cons_zero, List.getElem_cons_succ, List.setIfInBounds_toArray, List.set_cons_zero, List.set_cons_succ]
      --@5
      refine x_any (by kernel_rfl) ?_ (fun wq hC => ?_) ?_
      rotate_left
      · (go_simp) <;> (try (with_reducible rfl))
      try simp only [Act.put, Array.getInternal_eq_getElem, List.getElem_toArray, List.getElem_cons_zero, List.getElem_cons_succ, List.setIfInBounds_toArray, List.set_cons_zero, List.set_cons_succ]
      --@6
      refine x_any (by kernel_rfl) ?_ (fun wq hC => ?_) ?_
      rotate_left
      · (go_simp) <;> (try (with_reducible rfl))
      try simp only [Act.put, Array.getInternal_eq_getElem, List.getElem_toArray, List.getElem_cons_zero, List.getElem_cons_succ, List.setIfInBounds_toArray, List.set_cons_zero, List.set_cons_succ]
      refine x_nil ?_
      intro wm kwm
      go_wp2_with ((with_reducible show wpList _ _ _ (⟨some 121, _, _, _, _, _⟩ :: _) _ _); refine x_list kwm ?_)
      --@0
      refine x_load (by kernel_rfl) 28 _ rfl wl.heap.size 0 rfl CR _ (fun wq hC => (F5 wq hC).1) Tryz.underlying28 rfl Z5.out ?_
      try simp only [Act.put, Array.getInternal_eq_getElem, List.getElem_toArray, List.getElem_cons_zero, List.getElem_cons_succ, List.setIfInBounds_toArray, List.set_cons_zero, List.set_cons_succ]
      --@1
      refine x_call (by kernel_rfl) (fun wq hC => old_call hC (H19 wq).out) (fun wq => ?_) ?_
      · go_simp <;> (try (with_reducible rfl))
      try simp only [Act.put, Array.getInternal_eq_getElem, List.getElem_toArray, List.getElem_cons_zero, List.getElem_cons_succ, List.setIfInBounds_toArray, List.set_cons_zero, List.set_cons_succ]
      --@2
      refine x_any (by kernel_rfl) ?_ (fun wq hC => ?_) ?_
      rotate_left
      · (go_simp) <;> (try (with_reducible rfl))
      try simp only [Act.put, Array.getInternal_eq_getElem, List.getElem_toArray, List.getElem_cons_zero, List.getElem_cons_succ, List.setIfInBounds_toArray, List.set_cons_zero, List.set_cons_succ]
      --@3
      refine x_any (by kernel_rfl) ?_ (fun wq hC => ?_) ?_
      rotate_left
      · (go_simp) <;> (try (with_reducible rfl))
      try simp only [Act.put, Array.getInternal_eq_getElem, List.getElem_toArray, List.getElem_cons_zero, List.getElem_cons_succ, List.setIfInBounds_toArray, List.set_cons_zero, List.set_cons_succ]
      refine x_nil ?_
      intro wn kwn
      go_wp2_with (fail)
      refine (HWK _ (HEV _ kwn)).out.mono ?_
      rintro e wz ⟨rfl, kwz⟩
      have KZ : Hid (∀ S, Keeps S w wz) := Lib.hid (fun S => ((Kb4.out S).trans (kwn.all S)).trans (kwz S))
      clear kwz
      go_wp2
      try rw [Exit.noGoto_ret]
      go_ret
      exact ⟨rfl, KZ.out⟩
    · have her2 : (er == 0) = false := by simpa using her
      obtain ⟨hoc, htc⟩ := HDA.out (by trivial)
      rw [txA_yes hoc, htc, ← HSS.out] at H13
      rw [show errA c = 0 from if_pos hoc] at H14
      clear hoc htc
      go_wp2_with (first | (refine wpList_store_mid rfl 24 _ _ rfl wi.heap.size 0 CC.toArray rfl rfl HTb3.out.1 HTb3.out.2.1 HTb3.out.2.2 ?_; rw [← HBb3.out]) | ((with_reducible show wpList _ _ _ (⟨some 85, _, _, _, _, _⟩ :: _) _ _); refine x_list (Old.refl b3) ?_))
      --@0
      refine x_load (by kernel_rfl) 24 _ rfl wi.heap.size 0 rfl CC _ (fun wq hC => (F4 wq hC).1) Tryz.underlying24 rfl Z4.out ?_
      try simp only [Act.put, Array.getInternal_eq_getElem, List.getElem_toArray, List.getElem_cons_zero, List.getElem_cons_succ, List.setIfInBounds_toArray, List.set_cons_zero, List.set_cons_succ]
      --@1
      refine x_call (by kernel_rfl) (fun wq hC => old_call hC (H13 wq (HEV wq hC)).out) (fun wq => ?_) ?_
      · go_simp <;> (try (with_reducible rfl))
      try simp only [Act.put, Array.getInternal_eq_getElem, List.getElem_toArray, List.getElem_cons_zero, List.getElem_cons_succ, List.setIfInBounds_toArray, List.set_cons_zero, List.set_cons_succ]
      --@2
      refine x_any (by kernel_rfl) ?_ (fun wq hC => ?_) ?_
      rotate_left
      · (go_simp) <;> (try (with_reducible rfl))
      try simp only [Act.put, Array.getInternal_eq_getElem, List.getElem_toArray, List.getElem_cons_zero, List.getElem_cons_succ, List.setIfInBounds_toArray, List.set_cons_zero, List.set_cons_succ]
      --@3
      refine x_any (by kernel_rfl) ?_ (fun wq hC => ?_) ?_
      rotate_left
      · (go_simp) <;> (try (with_reducible rfl))
      try simp only [Act.put, Array.getInternal_eq_getElem, List.getElem_toArray, List.getElem_cons_zero, List.getElem_cons_succ, List.setIfInBounds_toArray, List.set_cons_zero, List.set_cons_succ]
      --@4
      refine x_any (by kernel_rfl) ?_ (fun wq hC => ?_) ?_
      rotate_left
      · (go_simp) <;> (try (with_reducible rfl))
      try simp only [Act.put, Array.getInternal_eq_getElem, List.getElem_toArray, List.getElem_cons_zero, List.getElem_cons_succ, List.setIfInBounds_toArray, List.set_cons_zero, List.set_cons_succ]
      --@5
      refine x_any (by kernel_rfl) ?_ (fun wq hC => ?_) ?_
      rotate_left
      · (go_simp) <;> (try (with_reducible rfl))
      try simp only [Act.put, Array.getInternal_eq_getElem, List.getElem_toArray, List.getElem_cons_zero, List.getElem_cons_succ, List.setIfInBounds_toArray, List.set_cons_zero, List.set_cons_succ]
      --@6
      refine x_any (by kernel_rfl) ?_ (fun wq hC => ?_) ?_
      rotate_left
      · (go_simp) <;> (try (with_reducible rfl))
      try simp only [Act.put, Array.getInternal_eq_getElem, List.getElem_toArray, List.getElem_cons_zero, List.getElem_cons_succ, List.setIfInBounds_toArray, List.set_cons_zero, List.set_cons_succ]
      refine x_nil ?_
      intro wj kwj
      go_wp2_with ((with_reducible show wpList _ _ _ (⟨some 97, _, _, _, _, _⟩ :: _) _ _); refine x_list kwj ?_)
      --@0
      refine x_load (by kernel_rfl) 24 _ rfl wi.heap.size 0 rfl CC _ (fun wq hC => (F4 wq hC).1) Tryz.underlying24 rfl Z4.out ?_
      try simp only [Act.put, Array.getInternal_eq_getElem, List.getElem_toArray, List.getElem_cons_zero, List.getElem_cons_succ, List.setIfInBounds_toArray, List.set_cons_zero, List.set_cons_succ]
      --@1
      refine x_call (by kernel_rfl) (fun wq hC => old_call hC (H14 wq).out) (fun wq => ?_) ?_
      · go_simp <;> (try (with_reducible rfl))
      try simp only [Act.put, Array.getInternal_eq_getElem, List.getElem_toArray, List.getElem_cons_zero, List.getElem_cons_succ, List.setIfInBounds_toArray, List.set_cons_zero, List.set_cons_succ]
      --@2
      refine x_any (by kernel_rfl) ?_ (fun wq hC => ?_) ?_
      rotate_left
      · (go_simp) <;> (try (with_reducible rfl))
      try simp only [Act.put, Array.getInternal_eq_getElem, List.getElem_toArray, List.getElem_cons_zero, List.getElem_cons_succ, List.setIfInBounds_toArray, List.set_cons_zero, List.set_cons_succ]
      --@3
      refine x_any (by kernel_rfl) ?_ (fun wq hC => ?_) ?_
      rotate_left
      · (go_simp) <;> (try (with_reducible rfl))
      try simp only [Act.put, Array.getInternal_eq_getElem, List.getElem_toArray, List.getElem_cons_zero, List.getElem_cons_succ, List.setIfInBounds_toArray, List.set_cons_zero, List.set_cons_succ]
      refine x_nil ?_
      intro wk kwk
      go_wp2_with ((with_reducible show wpList _ _ _ (⟨some 103, _, _, _, _, _⟩ :: _) _ _); refine x_list kwk ?_)
      --@0
      refine x_call (by kernel_rfl) (fun wq hC => old_call hC (H16 wq (HEV wq hC)).out) (fun wq => ?_) ?_
      · go_simp <;> (try (with_reducible rfl))
      try simp only [Act.put, Array.getInternal_eq_getElem, List.getElem_toArray, List.getElem_cons_zero, List.getElem_cons_succ, List.setIfInBounds_toArray, List.set_cons_zero, List.set_cons_succ]
      --@1
      refine x_any (by kernel_rfl) ?_ (fun wq hC => ?_) ?_
      rotate_left
      · (go_simp) <;> (try (with_reducible rfl))
      try simp only [Act.put, Array.getInternal_eq_getElem, List.getElem_toArray, List.getElem_cons_zero, List.getElem_cons_succ, List.setIfInBounds_toArray, List.set_cons_zero, List.set_cons_succ]
      --@2
      refine x_any (by kernel_rfl) ?_ (fun wq hC => ?_) ?_
      rotate_left
      · (go_simp) <;> (try (with_reducible rfl))
      try simp only [Act.put, Array.getInternal_eq_getElem, List.getElem_toArray, List.getElem_cons_zero, List.getElem_cons_succ, List.setIfInBounds_toArray, List.set_cons_zero, List.set_cons_succ]
      --@3
      refine x_any (by kernel_rfl) ?_ (fun wq hC => ?_) ?_
      rotate_left
      · (go_simp) <;> (try (with_reducible rfl))
      try simp only [Act.put, Array.getInternal_eq_getElem, List.getElem_toArray, List.getElem_cons_zero, List.getElem_cons_succ, List.setIfInBounds_toArray, List.set_cons_zero, List.set_cons_succ]
      refine x_stop ?_
      intro wl kwl
      obtain ⟨b4, hb4, htb4, bbb4, kbb4⟩ := box_px wl r hrw
      have HTb4 := Lib.hid htb4
      have HBb4 := Lib.hid hb4
      have KOb4 : Old b3 b4 := kwl.trans (kbb4 _)
      have Kb4 : Hid (∀ S, Keeps S w b4) := Lib.hid (fun S => (Kb3.out S).trans (KOb4.all S))
      have HEV := fun (wq : World) (hC : Old b4 wq) => HEV0.out.keeps (fun S => (Kb4.out S).trans (hC.all S))
      have F0_b4 := fun (wq : World) (hC : Old b4 wq) => F0_b3 wq (KOb4.trans hC)
      have F1_b4 := fun (wq : World) (hC : Old b4 wq) => F1_b3 wq (KOb4.trans hC)
      have F2_b4 := fun (wq : World) (hC : Old b4 wq) => F2_b3 wq (KOb4.trans hC)
      have F3_b4 := fun (wq : World) (hC : Old b4 wq) => F3_b3 wq (KOb4.trans hC)
      have F4_b4 := fun (wq : World) (hC : Old b4 wq) => F4 wq (KOb4.trans hC)
      have F5 := px_facts hrw bbb4
      have Z5 := Lib.hid (px_sz hrw)
      have ZA5 := Lib.hid (ad_sz hrw)
      clear hb4 htb4 bbb4 kbb4
      rw [HCR.out] at F5 Z5 HTb4 HBb4
      rw [HAR.out] at F5 ZA5
      have HEV := fun (wq : World) (hC : Old b4 wq) => HEV0.out.keeps (fun S => (Kb4.out S).trans (hC.all S))
      go_wp2_with (first | (refine wpList_store_mid rfl 28 _ _ rfl wl.heap.size 0 CR.toArray rfl rfl HTb4.out.1 HTb4.out.2.1 HTb4.out.2.2 ?_; rw [← HBb4.out]))
      refine (HWK _ (HEV _ (Old.refl b4))).out.mono ?_
      rintro e wz ⟨rfl, kwz⟩
      have KZ : Hid (∀ S, Keeps S w wz) := Lib.hid (fun S => ((Kb4.out S).trans ((Old.refl b4).all S)).trans (kwz S))
      clear kwz
      go_wp2
      try rw [Exit.noGoto_ret]
      go_ret
      exact ⟨rfl, KZ.out⟩
  · have hec2 : (ec == 0) = false := by simpa using hec
    by_cases her : er = 0
    · subst her
      go_wp2_with (first | (refine wpList_store_mid rfl 24 _ _ rfl wi.heap.size 0 CC.toArray rfl rfl HTb3.out.1 HTb3.out.2.1 HTb3.out.2.2 ?_; rw [← HBb3.out]) | ((with_reducible show wpList _ _ _ (⟨some 103, _, _, _, _, _⟩ :: _) _ _); refine x_list (Old.refl b3) ?_))
      --@0
      refine x_call (by kernel_rfl) (fun wq hC => old_call hC (H16 wq (HEV wq hC)).out) (fun wq => ?_) ?_
      · go_simp <;> (try (with_reducible rfl))
      try simp only [Act.put, Array.getInternal_eq_getElem, List.getElem_toArray, List.getElem_cons_zero, List.getElem_cons_succ, List.setIfInBounds_toArray, List.set_cons_zero, List.set_cons_succ]
      --@1
      refine x_any (by kernel_rfl) ?_ (fun wq hC => ?_) ?_
      rotate_left
      · (go_simp) <;> (try (with_reducible rfl))
      try simp only [Act.put, Array.getInternal_eq_getElem, List.getElem_toArray, List.getElem_cons_zero, List.getElem_cons_succ, List.setIfInBounds_toArray, List.set_cons_zero, List.set_cons_succ]
      --@2
      refine x_any (by kernel_rfl) ?_ (fun wq hC => ?_) ?_
      rotate_left
      · (go_simp) <;> (try (with_reducible rfl))
      try simp only [Act.put, Array.getInternal_eq_getElem, List.getElem_toArray, List.getElem_cons_zero, List.getElem_cons_succ, List.setIfInBounds_toArray, List.set_cons_zero, List.set_cons_succ]
      --@3
      refine x_any (by kernel_rfl) ?_ (fun wq hC => ?_) ?_
      rotate_left
      · (go_simp) <;> (try (with_reducible rfl))
      try simp only [Act.put, Array.getInternal_eq_getElem, List.getElem_toArray, List.getElem_cons_zero, List.getElem_cons_succ, List.setIfInBounds_toArray, List.set_cons_zero, List.set_cons_succ]
      refine x_stop ?_
      intro wl kwl
      obtain ⟨b4, hb4, htb4, bbb4, kbb4⟩ := box_px wl r hrw
      have HTb4 := Lib.hid htb4
      have HBb4 := Lib.hid hb4
      have KOb4 : Old b3 b4 := kwl.trans (kbb4 _)
      have Kb4 : Hid (∀ S, Keeps S w b4) := Lib.hid (fun S => (Kb3.out S).trans (KOb4.all S))
      have HEV := fun (wq : World) (hC : Old b4 wq) => HEV0.out.keeps (fun S => (Kb4.out S).trans (hC.all S))
      have F0_b4 := fun (wq : World) (hC : Old b4 wq) => F0_b3 wq (KOb4.trans hC)
      have F1_b4 := fun (wq : World) (hC : Old b4 wq) => F1_b3 wq (KOb4.trans hC)
      have F2_b4 := fun (wq : World) (hC : Old b4 wq) => F2_b3 wq (KOb4.trans hC)
      have F3_b4 := fun (wq : World) (hC : Old b4 wq) => F3_b3 wq (KOb4.trans hC)
      have F4_b4 := fun (wq : World) (hC : Old b4 wq) => F4 wq (KOb4.trans hC)
      have F5 := px_facts hrw bbb4
      have Z5 := Lib.hid (px_sz hrw)
      have ZA5 := Lib.hid (ad_sz hrw)
      clear hb4 htb4 bbb4 kbb4
      rw [HCR.out] at F5 Z5 HTb4 HBb4
      rw [HAR.out] at F5 ZA5
      have HEV := fun (wq : World) (hC : Old b4 wq) => HEV0.out.keeps (fun S => (Kb4.out S).trans (hC.all S))
      obtain ⟨hor, htr⟩ := HDP.out (by trivial)
      rw [txP_yes hor, htr, ← HSS.out] at H18
      rw [show errP r = 0 from if_pos hor] at H19
      clear hor htr
      go_wp2_with (first | (refine wpList_store_mid rfl 28 _ _ rfl wl.heap.size 0 CR.toArray rfl rfl HTb4.out.1 HTb4.out.2.1 HTb4.out.2.2 ?_; rw [← HBb4.out]) | ((with_reducible show wpList _ _ _ (⟨some 109, _, _, _, _, _⟩ :: _) _ _); refine x_list (Old.refl b4) ?_))
      --@0
      refine x_load (by kernel_rfl) 28 _ rfl wl.heap.size 0 rfl CR _ (fun wq hC => (F5 wq hC).1) Tryz.underlying28 rfl Z5.out ?_
      try simp only [Act.put, Array.getInternal_eq_getElem, List.getElem_toArray, List.getElem_cons_zero, List.getElem_cons_succ, List.setIfInBounds_toArray, List.set_cons_zero, List.set_cons_succ]
      --@1
      refine x_call (by kernel_rfl) (fun wq hC => old_call hC (H18 wq (HEV wq hC)).out) (fun wq => ?_) ?_
      · go_simp <;> (try (with_reducible rfl))
      try simp only [Act.put, Array.getInternal_eq_getElem, List.getElem_toArray, List.getElem_cons_zero, List.getElem_cons_succ, List.setIfInBounds_toArray, List.set_cons_zero, List.set_cons_succ]
      --@2
      refine x_any (by kernel_rfl) ?_ (fun wq hC => ?_) ?_
      rotate_left
      · (go_simp) <;> (try (with_reducible rfl))
      try simp only [Act.put, Array.getInternal_eq_getElem, List.getElem_toArray, List.getElem_cons_zero, List.getElem_cons_succ, List.setIfInBounds_toArray, List.set_cons_zero, List.set_cons_succ]
      --@3
      refine x_any (by kernel_rfl) ?_ (fun wq hC => ?_) ?_
      rotate_left
      · (go_simp) <;> (try (with_reducible rfl))
      try simp only [Act.put, Array.getInternal_eq_getElem, List.getElem_toArray, List.getElem_cons_zero, List.getElem_cons_succ, List.setIfInBounds_toArray, List.set_cons_zero, List.set_cons_succ]
      --@4
      refine x_any (by kernel_rfl) ?_ (fun wq hC => ?_) ?_
      rotate_left
      · (go_simp) <;> (try (with_reducible rfl))
      try simp only [Act.put, Array.getInternal_eq_getElem, List.getElem_toArray, List.getElem_cons_zero, List.getElem_cons_succ, List.setIfInBounds_toArray, List.set_cons_zero, List.set_cons_succ]
      --@5
      refine x_any (by kernel_rfl) ?_ (fun wq hC => ?_) ?_
      rotate_left
      · (go_simp) <;> (try (with_reducible rfl))
      try simp only [Act.put, Array.getInternal_eq_getElem, List.getElem_toArray, List.getElem_cons_zero, List.getElem_cons_succ, List.setIfInBounds_toArray, List.set_cons_zero, List.set_cons_succ]
      --@6
      refine x_any (by kernel_rfl) ?_ (fun wq hC => ?_) ?_
      rotate_left
      · (go_simp) <;> (try (with_reducible rfl))
      try simp only [Act.put, Array.getInternal_eq_getElem, List.getElem_toArray, List.getElem_cons_zero, List.getElem_cons_succ, List.setIfInBounds_toArray, List.set_cons_zero, List.set_cons_succ]
      refine x_nil ?_
      intro wm kwm
      go_wp2_with ((with_reducible show wpList _ _ _ (⟨some 121, _, _, _, _, _⟩ :: _) _ _); refine x_list kwm ?_)
      --@0
      refine x_load (by kernel_rfl) 28 _ rfl wl.heap.size 0 rfl CR _ (fun wq hC => (F5 wq hC).1) Tryz.underlying28 rfl Z5.out ?_
      try simp only [Act.put, Array.getInternal_eq_getElem, List.getElem_toArray, List.getElem_cons_zero, List.getElem_cons_succ, List.setIfInBounds_toArray, List.set_cons_zero, List.set_cons_succ]
      --@1
      refine x_call (by kernel_rfl) (fun wq hC => old_call hC (H19 wq).out) (fun wq => ?_) ?_
      · go_simp <;> (try (with_reducible rfl))
      try simp only [Act.put, Array.getInternal_eq_getElem, List.getElem_toArray, List.getElem_cons_zero, List.getElem_cons_succ, List.setIfInBounds_toArray, List.set_cons_zero, List.set_cons_succ]
      --@2
      refine x_any (by kernel_rfl) ?_ (fun wq hC => ?_) ?_
      rotate_left
      · (go_simp) <;> (try (with_reducible rfl))
      try simp only [Act.put, Array.getInternal_eq_getElem, List.getElem_toArray, List.getElem_cons_zero, List.getElem_cons_succ, List.setIfInBounds_toArray, List.set_cons_zero, List.set_cons_succ]
      --@3
      refine x_any (by kernel_rfl) ?_ (fun wq hC => ?_) ?_
      rotate_left
      · (go_simp) <;> (try (with_reducible rfl))
      try simp only [Act.put, Array.getInternal_eq_getElem, List.getElem_toArray, List.getElem_cons_zero, List.getElem_cons_succ, List.setIfInBounds_toArray, List.set_cons_zero, List.set_cons_succ]
      refine x_nil ?_
      intro wn kwn
      go_wp2_with (fail)
      refine (HWK _ (HEV _ kwn)).out.mono ?_
      rintro e wz ⟨rfl, kwz⟩
      have KZ : Hid (∀ S, Keeps S w wz) := Lib.hid (fun S => ((Kb4.out S).trans (kwn.all S)).trans (kwz S))
      clear kwz
      go_wp2
      try rw [Exit.noGoto_ret]
      go_ret
      exact ⟨rfl, KZ.out⟩
    · have her2 : (er == 0) = false := by simpa using her
      go_wp2_with (first | (refine wpList_store_mid rfl 24 _ _ rfl wi.heap.size 0 CC.toArray rfl rfl HTb3.out.1 HTb3.out.2.1 HTb3.out.2.2 ?_; rw [← HBb3.out]) | ((with_reducible show wpList _ _ _ (⟨some 103, _, _, _, _, _⟩ :: _) _ _); refine x_list (Old.refl b3) ?_))
      --@0
      refine x_call (by kernel_rfl) (fun wq hC => old_call hC (H16 wq (HEV wq hC)).out) (fun wq => ?_) ?_
      · go_simp <;> (try (with_reducible rfl))
      try simp only [Act.put, Array.getInternal_eq_getElem, List.getElem_toArray, List.getElem_cons_zero, List.getElem_cons_succ, List.setIfInBounds_toArray, List.set_cons_zero, List.set_cons_succ]
      --@1
      refine x_any (by kernel_rfl) ?_ (fun wq hC => ?_) ?_
      rotate_left
      · (go_simp) <;> (try (with_reducible rfl))
      try simp only [Act.put, Array.getInternal_eq_getElem, List.getElem_toArray, List.getElem_cons_zero, List.getElem_cons_succ, List.setIfInBounds_toArray, List.set_cons_zero, List.set_cons_succ]
      --@2
      refine x_any (by kernel_rfl) ?_ (fun wq hC => ?_) ?_
      rotate_left
      · (go_simp) <;> (try (with_reducible rfl))
      try simp only [Act.put, Array.getInternal_eq_getElem, List.getElem_toArray, List.getElem_cons_zero, List.getElem_cons_succ, List.setIfInBounds_toArray, List.set_cons_zero, List.set_cons_succ]
      --@3
      refine x_any (by kernel_rfl) ?_ (fun wq hC => ?_) ?_
      rotate_left
      · (go_simp) <;> (try (with_reducible rfl))
      try simp only [Act.put, Array.getInternal_eq_getElem, List.getElem_toArray, List.getElem_cons_zero, List.getElem_cons_succ, List.setIfInBounds_toArray, List.set_cons_zero, List.set_cons_succ]
      refine x_stop ?_
      intro wl kwl
      obtain ⟨b4, hb4, htb4, bbb4, kbb4⟩ := box_px wl r hrw
      have HTb4 := Lib.hid htb4
      have HBb4 := Lib.hid hb4
      have KOb4 : Old b3 b4 := kwl.trans (kbb4 _)
      have Kb4 : Hid (∀ S, Keeps S w b4) := Lib.hid (fun S => (Kb3.out S).trans (KOb4.all S))
      have HEV := fun (wq : World) (hC : Old b4 wq) => HEV0.out.keeps (fun S => (Kb4.out S).trans (hC.all S))
      have F0_b4 := fun (wq : World) (hC : Old b4 wq) => F0_b3 wq (KOb4.trans hC)
      have F1_b4 := fun (wq : World) (hC : Old b4 wq) => F1_b3 wq (KOb4.trans hC)
      have F2_b4 := fun (wq : World) (hC : Old b4 wq) => F2_b3 wq (KOb4.trans hC)
      have F3_b4 := fun (wq : World) (hC : Old b4 wq) => F3_b3 wq (KOb4.trans hC)
      have F4_b4 := fun (wq : World) (hC : Old b4 wq) => F4 wq (KOb4.trans hC)
      have F5 := px_facts hrw bbb4
      have Z5 := Lib.hid (px_sz hrw)
      have ZA5 := Lib.hid (ad_sz hrw)
      clear hb4 htb4 bbb4 kbb4
      rw [HCR.out] at F5 Z5 HTb4 HBb4
      rw [HAR.out] at F5 ZA5
      have HEV := fun (wq : World) (hC : Old b4 wq) => HEV0.out.keeps (fun S => (Kb4.out S).trans (hC.all S))
      go_wp2_with (first | (refine wpList_store_mid rfl 28 _ _ rfl wl.heap.size 0 CR.toArray rfl rfl HTb4.out.1 HTb4.out.2.1 HTb4.out.2.2 ?_; rw [← HBb4.out]))
      refine (HWK _ (HEV _ (Old.refl b4))).out.mono ?_
      rintro e wz ⟨rfl, kwz⟩
      have KZ : Hid (∀ S, Keeps S w wz) := Lib.hid (fun S => ((Kb4.out S).trans ((Old.refl b4).all S)).trans (kwz S))
      clear kwz
      go_wp2
      try rw [Exit.noGoto_ret]
      go_ret
      exact ⟨rfl, KZ.out⟩
end
end Go.Proofs.YtgcdhfpbmcfedaaGreatDoor.pf
