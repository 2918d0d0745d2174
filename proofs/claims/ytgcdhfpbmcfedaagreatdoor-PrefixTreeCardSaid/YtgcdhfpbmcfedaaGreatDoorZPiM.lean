/-
  PrefixTree: its walk.
-/
import Derived.Deep.DeepCutAuto
import Derived.Test.YtgcdhfpbmcfedaaGreatDoorZPiN
set_option linter.unusedVariables false
set_option linter.unusedSimpArgs false
namespace Go.Proofs.YtgcdhfpbmcfedaaGreatDoor.pf
open Go.RowKit Go.Proofs.YtgcdhfpbmcfedaaGreatDoor.oc Go.Proofs.YtgcdhfpbmcfedaaGreatDoor.mz Go.Proofs.YtgcdhfpbmcfedaaGreatDoor.wh Go.Proofs.YtgcdhfpbmcfedaaGreatDoor.qk
section
variable {p q : Px} {b : Ad}
theorem t_eq (hp : p.a.Wf) (hq : q.a.Wf) (h : coversB p q = true) : decide (p = q) = coversB q p := by
  rw [coversB_iff] at h
  rw [Bool.eq_iff_iff, decide_eq_true_eq, coversB_iff]
  constructor
  · rintro rfl; exact h
  · intro k; exact covers_both hp hq h k
theorem t_ne (h : coversB p q = false) (ho : okP p) : decide (p = q) = false := by
  refine decide_eq_false fun e => ?_
  subst e
  have := (coversB_iff p p).2 (covers_self ho)
  rw [h] at this; cases this
theorem hasB_iff : hasB p b = true ↔ has p b := by unfold hasB; simp
theorem has_true (h : has p b) : hasB p b = true := hasB_iff.2 h
theorem has_false (h : ¬ has p b) : hasB p b = false := by rw [← Bool.not_eq_true, hasB_iff]; exact h
theorem cov_false (h : ¬ covers p q) : coversB p q = false := by rw [← Bool.not_eq_true, coversB_iff]; exact h
theorem t_none (h1 : coversB p q = false) (h2 : coversB q p = false) (hq : has q b) : hasB p b = false := by
  refine has_false fun k => ?_
  rcases share k hq with c | c
  · have := (coversB_iff p q).2 c; rw [h1] at this; cases this
  · have := (coversB_iff q p).2 c; rw [h2] at this; cases this
theorem t_first (h1 : coversB p q = false) (h2 : coversB q p = false) (hq : okP q) : hasB p q.a = false := t_none h1 h2 (has_first hq)
theorem t_whole {a : Ad} (ha : a.Wf) (hb : b.Wf) (hoa : okA a) (hob : okA b) (k : Nat) (hk : (k : Int) = (wid a : Int)) : hasB (ofP a k) b = decide (a = b) := by
  have hka : k = wid a := by omega
  subst hka
  have hw := wid_le a
  rw [Bool.eq_iff_iff]
  constructor
  · intro h
    have h : has (ofP a (wid a)) b := hasB_iff.1 h
    refine decide_eq_true (Ad.ext_bit ha hb h.2.2.1.symm fun i hi => ?_)
    by_cases c : i < wid a
    · have := h.2.2.2 i (by show (i : Int) < (wid a : Int); omega)
      rw [this]
      show bit a i = bit (clr a (wid a)) i
      rw [clr_bit ha _ _ hi, decide_eq_true c]; rfl
    · have e : wid b = wid a := wid_of h.2.2.1
      rw [(okA_bits ha).1 hoa i (by omega) hi, (okA_bits hb).1 hob i (by omega) hi]
  · intro h
    have h := of_decide_eq_true h
    subst h
    exact has_true (of_has ha hoa _ (Nat.le_refl _))
end
section
variable {p : Px}
theorem h_xor (h : p.a.Wf) (ho : okP p) (hb : ¬ p.bits = (wid p.a : Int)) {b : Ad} (hh : has p b) : hasB (half1 p) b = !hasB (half0 p) b := by
  cases hc : bit b p.bits.toNat with
  | true => rw [has_true ((half1_has h ho hb b).2 ⟨hh, hc⟩), has_false (fun z => by have := ((half0_has h ho hb b).1 z).2; rw [hc] at this; cases this)]; rfl
  | false => rw [has_true ((half0_has h ho hb b).2 ⟨hh, hc⟩), has_false (fun z => by have := ((half1_has h ho hb b).1 z).2; rw [hc] at this; cases this)]; rfl
theorem h_yes (h : p.a.Wf) (ho : okP p) (hb : ¬ p.bits = (wid p.a : Int)) {b : Ad} (hh : hasB (half0 p) b = true) : hasB (half1 p) b = false ∧ hasB p b = true := by
  have h0 := (half0_has h ho hb b).1 (hasB_iff.1 hh)
  have := h_xor h ho hb h0.1
  rw [hh] at this
  exact ⟨this, has_true h0.1⟩
theorem h_no (h : p.a.Wf) (ho : okP p) (hb : ¬ p.bits = (wid p.a : Int)) {b : Ad} (hh : hasB (half0 p) b = false) : hasB (half1 p) b = hasB p b := by
  by_cases c : has p b
  · rw [h_xor h ho hb c, hh, has_true c]; rfl
  · have : hasB p b = false := has_false c
    rw [this]
    exact has_false fun z => c ((half1_has h ho hb b).1 z).1
theorem h_cov (h : p.a.Wf) (ho : okP p) (hb : ¬ p.bits = (wid p.a : Int)) : coversB p (half0 p) = true ∧ coversB p (half1 p) = true ∧ coversB (half0 p) (half1 p) = false ∧ coversB (half1 p) (half0 p) = false := by
  obtain ⟨c1, c2, c3, c4⟩ := half_apart h ho hb
  exact ⟨(coversB_iff _ _).2 c1, (coversB_iff _ _).2 c2, cov_false c3, cov_false c4⟩
end
section
variable (w : World)
set_option maxRecDepth 100000 in
set_option maxHeartbeats 6000000 in
theorem walk_prefixTree (a0 : Ad) (ha0 : a0.Wf) (b0 : Ad) (hb0 : b0.Wf) (i j : Int) (hi : -9223372036854775808 ≤ i ∧ i ≤ 9223372036854775807) (hj : -9223372036854775808 ≤ j ∧ j ≤ 9223372036854775807) (henv : Env w) :
    Calls Tryz.prog 3 #[av a0, av b0, .agg #[.int .i64 i, .int .i64 j]] w fun e w' => e = .returned (.bool true) ∧ ∀ S, Keeps S w w' := by
  obtain ⟨w0, hw0, k0, bb0, bb1, bb2⟩ := boxes3 w (adc a0) (adc b0) [.int .i64 i, .int .i64 j] 24 24 25
  have HR := fun w => Lib.hid (right_ w a0 ha0)
  have HQ := fun w => Lib.hid (right_ w b0 hb0)
  have ha := rightA_wf ha0
  have hoa := rightA_ok ha0
  have hb := rightA_wf hb0
  have hob := rightA_ok hb0
  have HL0 := Lib.hid (Blk.range bb0)
  have HS0 := Lib.hid (ad_sz ha0)
  have HS1 := Lib.hid (ad_sz hb0)
  have BB0 := Lib.hid bb0
  have BB1 := Lib.hid bb1
  have BB2 := Lib.hid bb2
  have KK0 : Hid (∀ S, Keeps S w w0) := Lib.hid k0
  have HW0 := Lib.hid hw0
  have HEV0 := Lib.hid henv
  clear hw0 k0 bb0 bb1 bb2 henv
  obtain ⟨a, hae⟩ : ∃ a, a = rightA a0 := ⟨_, rfl⟩
  obtain ⟨b, hbe⟩ : ∃ a, a = rightA b0 := ⟨_, rfl⟩
  rw [← hae] at HR ha hoa
  rw [← hbe] at HQ hb hob
  clear hae hbe
  unfold av at HR HQ
  unfold av
  obtain ⟨CA0, hCA0⟩ : ∃ c, c = adc a0 := ⟨_, rfl⟩
  obtain ⟨CB0, hCB0⟩ : ∃ c, c = adc b0 := ⟨_, rfl⟩
  have HLA := Lib.hid (show CA0.length = 17 ∧ CB0.length = 17 from ⟨by rw [hCA0]; exact adc_len ha0, by rw [hCB0]; exact adc_len hb0⟩)
  rw [← hCA0] at HR HL0 HS0 BB0 HW0 ⊢
  rw [← hCB0] at HQ HS1 BB1 HW0 ⊢
  clear hCA0 hCB0
  go_enter Tryz.func3, Tryz.ntmps3
  go_wp2_with ((with_reducible show wpList _ _ _ (⟨some 15, _, _, _, _, _⟩ :: _) _ _); rw [← HW0.out]; refine wpList_load_mid rfl 24 _ rfl w.heap.size 0 rfl CA0 _ HL0.out Tryz.underlying24 rfl HS0.out ?_)
  refine (HR _).out.mono ?_
  rintro e x1 ⟨rfl, kx1⟩
  have BX1 := Blk.keeps BB0.out (kx1 (fun _ => False)) (fun z => z)
  obtain ⟨o1, o2, o3, o5, o6⟩ := over_ad ha BX1 HLA.out.1
  obtain ⟨x2, hx2⟩ : ∃ y, y = x1.setCells w.heap.size 0 (adc a) := ⟨_, rfl⟩
  rw [← hx2] at o5 o6
  have BB1 := Lib.hid (Blk.keeps (Blk.keeps BB1.out (kx1 (fun _ => False)) (fun z => z)) o6 (by omega))
  have BB2 := Lib.hid (Blk.keeps (Blk.keeps BB2.out (kx1 (fun _ => False)) (fun z => z)) o6 (by omega))
  have BB0 := Lib.hid o5
  have HT0 := Lib.hid (And.intro o1 (And.intro o2 o3))
  have HB0 := Lib.hid hx2
  have KK1 : Hid (∀ S, Keeps S w x2) := Lib.hid (glue_all (Nat.le_refl _) (fun S => (KK0.out S).trans (kx1 S)) o6)
  have HL1 := Lib.hid (Blk.range BB1.out)
  clear HR kx1 BX1 o1 o2 o3 o5 o6 hx2 HL0 KK0
  obtain ⟨CA, hCA⟩ : ∃ c, c = adc a := ⟨_, rfl⟩
  rw [← hCA] at BB0 HT0 HB0 ⊢
  have HCAa := Lib.hid hCA
  clear hCA
  go_wp2_with (first
    | (refine wpList_store_mid rfl 24 _ _ rfl w.heap.size 0 CA.toArray rfl rfl HT0.out.1 HT0.out.2.1 HT0.out.2.2 ?_; rw [← HB0.out])
    | ((with_reducible show wpList _ _ _ (⟨some 17, _, _, _, _, _⟩ :: _) _ _); refine wpList_load_mid rfl 24 _ rfl (w.heap.size + 1) 0 rfl CB0 _ HL1.out Tryz.underlying24 rfl HS1.out ?_))
  refine (HQ _).out.mono ?_
  rintro e x3 ⟨rfl, kx3⟩
  have BX1 := Blk.keeps BB1.out (kx3 (fun _ => False)) (fun z => z)
  obtain ⟨o1, o2, o3, o5, o6⟩ := over_ad hb BX1 HLA.out.2
  obtain ⟨w1, hw1⟩ : ∃ y, y = x3.setCells (w.heap.size + 1) 0 (adc b) := ⟨_, rfl⟩
  rw [← hw1] at o5 o6
  have B0 := Blk.keeps (Blk.keeps BB0.out (kx3 (fun _ => False)) (fun z => z)) o6 (by omega)
  have B2 := Lib.hid (Blk.keeps (Blk.keeps BB2.out (kx3 (fun _ => False)) (fun z => z)) o6 (by omega))
  rw [HCAa.out] at B0
  have HT1 := Lib.hid (And.intro o1 (And.intro o2 o3))
  have HB1 := Lib.hid hw1
  have K1 : Hid (∀ S, Keeps S w w1) := Lib.hid (glue_all (Nat.le_succ _) (fun S => (KK1.out S).trans (kx3 S)) o6)
  have F0 := ad_facts B0
  have F1 := ad_facts o5
  have F2 := fun (wq : World) (hC : Old w1 wq) => show wq.cell? ⟨(w.heap.size + 1 + 1), 0, none⟩ = some (.int .i64 i) ∧ wq.cell? ⟨(w.heap.size + 1 + 1), 1, none⟩ = some (.int .i64 j) from ⟨by rw [(hC.blk B2.out).cell]; rfl, by rw [(hC.blk B2.out).cell]; rfl⟩
  have Z0 := Lib.hid (ad_sz ha)
  have Z1 := Lib.hid (ad_sz hb)
  have HEV := fun (wq : World) (hC : Old w1 wq) => HEV0.out.keeps (fun S => (K1.out S).trans (hC.all S))
  rw [HCAa.out]
  clear HQ kx3 BX1 o1 o2 o3 o5 o6 hw1 HL1 KK1 BB0 BB1 BB2 HT0 HB0 HW0 B0 HCAa HS0 HS1 HLA
  have hwa := wid_le a
  have hwb := wid_le b
  obtain ⟨k, hk⟩ : ∃ k, k = i % ((wid a : Int) + 1) := ⟨_, rfl⟩
  have hk0 : 0 ≤ k := by rw [hk]; exact Int.emod_nonneg _ (by omega)
  have hk1 : k ≤ (wid a : Int) := by have := Int.emod_lt_of_pos i (show 0 < (wid a : Int) + 1 by omega); omega
  obtain ⟨m, hm⟩ : ∃ k, k = j % ((wid b : Int) + 1) := ⟨_, rfl⟩
  have hm0 : 0 ≤ m := by rw [hm]; exact Int.emod_nonneg _ (by omega)
  have hm1 : m ≤ (wid b : Int) := by have := Int.emod_lt_of_pos j (show 0 < (wid b : Int) + 1 by omega); omega
  obtain ⟨p, hp⟩ : ∃ p, p = ofP a k.toNat := ⟨_, rfl⟩
  have hpo : okP p := by rw [hp]; exact ofP_ok ha hoa _ (by omega)
  have hpw : p.a.Wf := by rw [hp]; exact clr_wf ha _
  have hpa : has p a := by rw [hp]; exact of_has ha hoa _ (by omega)
  have hpv : wid p.a = wid a := by rw [hp]; exact wid_of rfl
  have HPB := Lib.hid (show p.bits = (wid a : Int) → hasB p b = decide (a = b) from fun z => by rw [hp] at z ⊢; exact t_whole ha hb hoa hob _ z)
  obtain ⟨q, hq⟩ : ∃ p, p = ofP b m.toNat := ⟨_, rfl⟩
  have hqo : okP q := by rw [hq]; exact ofP_ok hb hob _ (by omega)
  have hqw : q.a.Wf := by rw [hq]; exact clr_wf hb _
  have hqb : has q b := by rw [hq]; exact of_has hb hob _ (by omega)
  have HWd := fun w => Lib.hid (lwidth_ w a)
  have HWi := fun w => Lib.hid (within_ w i (wid a : Int) hi (by omega) (by omega))
  have HOf := fun w => Lib.hid (pofa_ w a k ha)
  have HXd := fun w => Lib.hid (lwidth_ w b)
  have HXi := fun w => Lib.hid (within_ w j (wid b : Int) hj (by omega) (by omega))
  have HXf := fun w => Lib.hid (pofa_ w b m hb)
  rw [ofA_in hoa hk0 hk1, ← hp] at HOf
  rw [ofA_in hob hm0 hm1, ← hq] at HXf
  rw [← hk] at HWi
  rw [← hm] at HXi
  have H1 := fun w => Lib.hid (phas_ w p a hpw ha)
  rw [has_true hpa] at H1
  have H2 := fun w => Lib.hid (phas_ w q b hqw hb)
  rw [has_true hqb] at H2
  have H3 := fun w => Lib.hid (pcovers_ w p p hpw hpw)
  rw [(coversB_iff p p).2 (covers_self hpo)] at H3
  have H4 := fun w => Lib.hid (pcovers_ w p q hpw hqw)
  have H5 := fun w => Lib.hid (pcovers_ w q p hqw hpw)
  obtain ⟨pq0, hpq0⟩ : ∃ x, x = coversB p q := ⟨_, rfl⟩
  obtain ⟨qp0, hqp0⟩ : ∃ x, x = coversB q p := ⟨_, rfl⟩
  rw [← hpq0] at H4
  rw [← hqp0] at H5
  have HPQ := Lib.hid hpq0
  have HQP := Lib.hid hqp0
  clear hpq0 hqp0
  have H6 := fun w => Lib.hid (phas_ w p b hpw hb)
  have H7 := fun w => Lib.hid (phas_ w p q.a hpw hqw)
  have H8 := fun w => Lib.hid (phas_ w q p.a hqw hpw)
  have H9 := fun w => Lib.hid (phva_ w p hpw)
  have HWK := fun w (h : Env w) => Lib.hid (works_ w h)
  have HEQ := fun w => px_eql p q hpw hqw w
  have HEB := fun w => addr_eql a b ha hb w
  have HPV := Lib.hid hpv
  have hxw := (hvA_wf hpw).1
  have hyw := (hvA_wf hpw).2
  have HXY := Lib.hid (show (hvA p = (zeroP, zeroP, 5) ∧ p.bits = (wid p.a : Int)) ∨ (hvA p = (half0 p, half1 p, 0) ∧ ¬ p.bits = (wid p.a : Int)) from by
    unfold hvA
    rw [if_pos hpo]
    by_cases z : p.bits = (wid p.a : Int)
    · exact .inl ⟨by rw [if_pos z], z⟩
    · exact .inr ⟨by rw [if_neg z], z⟩)
  have HM := Lib.hid (show okP p ∧ okP q ∧ has p a ∧ has q b from ⟨hpo, hqo, hpa, hqb⟩)
  obtain ⟨x, hx⟩ : ∃ x, x = (hvA p).1 := ⟨_, rfl⟩
  obtain ⟨y, hy⟩ : ∃ x, x = (hvA p).2.1 := ⟨_, rfl⟩
  obtain ⟨ev, hev⟩ : ∃ x, x = (hvA p).2.2 := ⟨_, rfl⟩
  rw [← hx] at H9 hxw
  rw [← hy] at H9 hyw
  rw [← hev] at H9
  have G1 := fun w => Lib.hid (phas_ w x a hxw ha)
  have G2 := fun w => Lib.hid (phas_ w y a hyw ha)
  have G3 := fun w => Lib.hid (phas_ w x b hxw hb)
  have G4 := fun w => Lib.hid (phas_ w y b hyw hb)
  have G5 := fun w => Lib.hid (pcompare_ w x y hxw hyw)
  have G6 := fun w => Lib.hid (pcompare_ w p x hpw hxw)
  have G7 := fun w => Lib.hid (pcovers_ w p x hpw hxw)
  have G8 := fun w => Lib.hid (pcovers_ w p y hpw hyw)
  have G9 := fun w => Lib.hid (pcovers_ w x y hxw hyw)
  have G10 := fun w => Lib.hid (pcovers_ w y x hyw hxw)
  have HX := Lib.hid (And.intro hx (And.intro hy hev))
  clear hk hk0 hk1 hm hm0 hm1 hp hq hwa hwb hi hj hoa hob hpo hqo hpa hqb hpv hx hy hev
  obtain ⟨wd, hwd⟩ : ∃ d, d = (wid a : Int) := ⟨_, rfl⟩
  rw [← hwd] at HWd HWi HPB
  rw [show (wid p.a : Int) = wd from by rw [HPV.out, hwd]] at HXY
  have HWD := Lib.hid (show wd = (wid p.a : Int) from by rw [HPV.out, hwd])
  clear hwd HPV
  generalize (wid b : Int) = wd2 at *
  obtain ⟨bp, hbp⟩ : ∃ d, d = p.bits := ⟨_, rfl⟩
  rw [← hbp] at HPB HXY
  have HBP := Lib.hid hbp
  unfold av at HWd HOf HXd HXf H1 H2 H6 H7 H8 G1 G2 G3 G4 HEB
  unfold pv at HOf HXf H1 H2 H3 H4 H5 H6 H7 H8 H9 G1 G2 G3 G4 G5 G6 G7 G8 G9 G10 HEQ
  generalize hCA : adc a = CA at *
  have HCA := Lib.hid hCA
  clear hCA
  generalize hCB : adc b = CB at *
  have HCB := Lib.hid hCB
  clear hCB
  generalize hCP : pxc p = CP at *
  have HCP := Lib.hid hCP
  clear hCP
  generalize hAP : adc p.a = AP at *
  have HAP := Lib.hid hAP
  clear hAP
  generalize hCQ : pxc q = CQ at *
  have HCQ := Lib.hid hCQ
  clear hCQ
  generalize hAQ : adc q.a = AQ at *
  have HAQ := Lib.hid hAQ
  clear hAQ
  generalize hCX : pxc x = CX at *
  have HCX := Lib.hid hCX
  clear hCX
  generalize hAX : adc x.a = AX at *
  have HAX := Lib.hid hAX
  clear hAX
  generalize hCY : pxc y = CY at *
  have HCY := Lib.hid hCY
  clear hCY
  generalize hAY : adc y.a = AY at *
  have HAY := Lib.hid hAY
  clear hAY
  try rw [HCA.out]
  go_upto_region 3 with (first | (refine wpList_store_mid rfl 24 _ _ rfl (w.heap.size + 1) 0 CB.toArray rfl rfl HT1.out.1 HT1.out.2.1 HT1.out.2.2 ?_; rw [← HB1.out]))
  try simp only [Act.put]
  go_cut [7, 8] (fun s7 s8 wx => ∃ B, s7 = .pointer (some ⟨B, 0, none⟩) ∧ s8 = .int .i64 0 ∧ Old w1 wx ∧ Blk wx B 28 CP)
  case first => as_aux_lemma =>
    refine wp_region_held_drew (S := fun w' => w'.rangeAt w.heap.size 0 CA ∧ w'.cell? ⟨(w.heap.size + 1 + 1), 0, none⟩ = some (.int .i64 i)) (by kernel_rfl) ⟨(F0 w1.drew (Old.refl w1).drew).1, (F2 w1.drew (Old.refl w1).drew).1⟩ (fun hHeld => ?_)
    obtain ⟨xd, hxd⟩ : ∃ y, y = w1.drew := ⟨_, rfl⟩
    rw [← hxd] at hHeld ⊢
    have kxd : Old w1 xd := by rw [hxd]; exact (Old.refl w1).drew
    clear hxd
    refine' wpAnyH_take (i := 0) (v := _) rfl (by kernel_rfl) (by kernel_rfl) (by kernel_rfl) (fun _ _ _ h => h) (yieldsIf_load_mid (by kernel_rfl) _ _ rfl _ _ rfl _ _ (fun w hSw => hSw.1) Tryz.underlying24 rfl Z0.out) (by assumption) ?_
    try simp only [Act.put, Array.getInternal_eq_getElem, List.getElem_toArray, List.getElem_cons_zero, List.getElem_cons_succ, List.setIfInBounds_toArray, List.set_cons_zero, List.set_cons_succ]
    refine wpAnyH_take (i := 1) (v := ?_) rfl (by kernel_rfl) (by kernel_rfl) (by kernel_rfl) (fun _ _ _ h => h) (Or.inl ⟨by kernel_rfl, ?_⟩) (by assumption) ?_
    rotate_left
    · (intro w hSw; (try dsimp only at hSw); go_simp) <;> (try (with_reducible rfl))
    try simp only [Act.put, Array.getInternal_eq_getElem, List.getElem_toArray, List.getElem_cons_zero, List.getElem_cons_succ, List.setIfInBounds_toArray, List.set_cons_zero, List.set_cons_succ]
    refine wpAnyH_take (i := 2) (v := ?_) rfl (by kernel_rfl) (by kernel_rfl) (by kernel_rfl) (fun _ _ _ h => h) (Or.inl ⟨by kernel_rfl, ?_⟩) (by assumption) ?_
    rotate_left
    · (intro w hSw; have hcell := hSw.2; clear hSw; go_simp) <;> (try (with_reducible rfl))
    try simp only [Act.put, Array.getInternal_eq_getElem, List.getElem_toArray, List.getElem_cons_zero, List.getElem_cons_succ, List.setIfInBounds_toArray, List.set_cons_zero, List.set_cons_succ]
    refine' wpAnyH_take (i := 3) (v := _) rfl (by kernel_rfl) (by kernel_rfl) (by kernel_rfl) (fun _ _ _ h => h) (yieldsIf_load_mid (by kernel_rfl) _ _ rfl _ _ rfl _ _ (fun w hSw => hSw.1) Tryz.underlying24 rfl Z0.out) (by assumption) ?_
    try simp only [Act.put, Array.getInternal_eq_getElem, List.getElem_toArray, List.getElem_cons_zero, List.getElem_cons_succ, List.setIfInBounds_toArray, List.set_cons_zero, List.set_cons_succ]
    refine wpAnyH_ready (rs := [4, 10]) (by kernel_rfl) (by simp) ?_
    refine AllReadyH.cons rfl (fun K hK => ?_) (AllReadyH.cons rfl (fun K hK => ?_) AllReadyH.nil)
    · (rw [if_pos (by kernel_rfl)]; go_simp; go_at_call 13; refine ((HWd _).out).mono ?_; rintro e x1 ⟨rfl, k2⟩)
      have q3 : Old w1 x1 := kxd.trans (k2 _)
      refine hK.out _ _ ⟨(F0 x1 q3).1, (F2 x1 q3).1⟩ (fun hHeld => ?_)
      clear hK K
      try simp only [Act.put, Array.getInternal_eq_getElem, List.getElem_toArray, List.getElem_cons_zero, List.getElem_cons_succ, List.setIfInBounds_toArray, List.set_cons_zero, List.set_cons_succ]
      refine wpAnyH_ready (rs := [5, 10]) (by kernel_rfl) (by simp) ?_
      refine AllReadyH.cons rfl (fun K hK => ?_) (AllReadyH.cons rfl (fun K hK => ?_) AllReadyH.nil)
      · (rw [if_pos (by kernel_rfl)]; go_simp; go_at_call 12; refine ((HWi _).out).mono ?_; rintro e x4 ⟨rfl, k5⟩)
        have q6 : Old w1 x4 := q3.trans (k5 _)
        refine hK.out _ _ ⟨(F0 x4 q6).1, (F2 x4 q6).1⟩ (fun hHeld => ?_)
        clear hK K
        try simp only [Act.put, Array.getInternal_eq_getElem, List.getElem_toArray, List.getElem_cons_zero, List.getElem_cons_succ, List.setIfInBounds_toArray, List.set_cons_zero, List.set_cons_succ]
        refine wpAnyH_ready (rs := [6, 10]) (by kernel_rfl) (by simp) ?_
        refine AllReadyH.cons rfl (fun K hK => ?_) (AllReadyH.cons rfl (fun K hK => ?_) AllReadyH.nil)
        · (rw [if_pos (by kernel_rfl)]; go_simp; go_at_call 11; refine ((HOf _).out).mono ?_; rintro e x7 ⟨rfl, k8⟩)
          have q9 : Old w1 x7 := q6.trans (k8 _)
          refine hK.out _ _ ⟨(F0 x7 q9).1, (F2 x7 q9).1⟩ (fun hHeld => ?_)
          clear hK K
          try simp only [Act.put, Array.getInternal_eq_getElem, List.getElem_toArray, List.getElem_cons_zero, List.getElem_cons_succ, List.setIfInBounds_toArray, List.set_cons_zero, List.set_cons_succ]
          refine wpAnyH_take (i := 7) (v := ?_) rfl (by kernel_rfl) (by kernel_rfl) (by kernel_rfl) (fun _ _ _ h => h) (Or.inl ⟨by kernel_rfl, ?_⟩) (by assumption) ?_
          rotate_left
          · (intro w hSw; (try dsimp only at hSw); go_simp) <;> (try (with_reducible rfl))
          try simp only [Act.put, Array.getInternal_eq_getElem, List.getElem_toArray, List.getElem_cons_zero, List.getElem_cons_succ, List.setIfInBounds_toArray, List.set_cons_zero, List.set_cons_succ]
          refine wpAnyH_take (i := 8) (v := ?_) rfl (by kernel_rfl) (by kernel_rfl) (by kernel_rfl) (fun _ _ _ h => h) (Or.inl ⟨by kernel_rfl, ?_⟩) (by assumption) ?_
          rotate_left
          · (intro w hSw; (try dsimp only at hSw); go_simp) <;> (try (with_reducible rfl))
          try simp only [Act.put, Array.getInternal_eq_getElem, List.getElem_toArray, List.getElem_cons_zero, List.getElem_cons_succ, List.setIfInBounds_toArray, List.set_cons_zero, List.set_cons_succ]
          refine wpAnyH_take (i := 9) (v := ?_) rfl (by kernel_rfl) (by kernel_rfl) (by kernel_rfl) (fun _ _ _ h => h) (Or.inl ⟨by kernel_rfl, ?_⟩) (by assumption) ?_
          rotate_left
          · (intro w hSw; (try dsimp only at hSw); go_simp) <;> (try (with_reducible rfl))
          try simp only [Act.put, Array.getInternal_eq_getElem, List.getElem_toArray, List.getElem_cons_zero, List.getElem_cons_succ, List.setIfInBounds_toArray, List.set_cons_zero, List.set_cons_succ]
          refine wpAnyH_ready (rs := [10]) (by kernel_rfl) (by simp) ?_
          refine AllReadyH.cons rfl (fun K hK => ?_) AllReadyH.nil
          · have lt15 : w1.heap.size ≤ x7.heap.size := q9.size
            obtain ⟨x10, hw11, bb12, k13⟩ := new_zp x7
            have q14 : Old w1 x10 := q9.trans (k13 _)
            (rw [if_pos (by kernel_rfl)]; go_simp; rw [← hw11])
            clear hw11
            refine hK.out _ _ ⟨(F0 x10 q14).1, (F2 x10 q14).1⟩ (fun hHeld => ?_)
            clear hK K
            try simp only [Act.put, Array.getInternal_eq_getElem, List.getElem_toArray, List.getElem_cons_zero, List.getElem_cons_succ, List.setIfInBounds_toArray, List.set_cons_zero, List.set_cons_succ]
            obtain ⟨t1, t2, t3, t5, t6⟩ := over_px (c := p) hpw bb12 rfl
            obtain ⟨x17, hs16⟩ : ∃ y, y = x10.setCells x7.heap.size 0 (pxc p) := ⟨_, rfl⟩
            rw [← hs16] at t5 t6
            have x17q : Old w1 x17 := old_over q14 lt15 t6
            have x17b := t5
            rw [HCP.out] at t1 t2 t3 hs16 x17b
            refine wpAnyH_ready (rs := [11]) (by kernel_rfl) (by simp) ?_
            refine AllReadyH.cons rfl (fun K hK => ?_) AllReadyH.nil
            (rw [if_pos (by kernel_rfl)]; simp only [Array.getInternal_eq_getElem, List.getElem_toArray, List.getElem_cons_zero, List.getElem_cons_succ]; refine wp_store_mid 28 _ _ rfl x7.heap.size 0 CP.toArray rfl rfl t1 t2 t3 ?_; simp only [List.toList_toArray, Act.put]; rw [← hs16])
            refine hK.out _ _ ⟨(F0 x17 x17q).1, (F2 x17 x17q).1⟩ (fun hHeld => ?_)
            clear hK K
            try simp only [Act.put, Array.getInternal_eq_getElem, List.getElem_toArray, List.getElem_cons_zero, List.getElem_cons_succ, List.setIfInBounds_toArray, List.set_cons_zero, List.set_cons_succ]
            refine wpAnyH_take (i := 12) (v := ?_) rfl (by kernel_rfl) (by kernel_rfl) (by kernel_rfl) (fun _ _ _ h => h) (Or.inl ⟨by kernel_rfl, ?_⟩) (by assumption) ?_
            rotate_left
            · (intro w hSw; (try dsimp only at hSw); go_simp) <;> (try (with_reducible rfl))
            try simp only [Act.put, Array.getInternal_eq_getElem, List.getElem_toArray, List.getElem_cons_zero, List.getElem_cons_succ, List.setIfInBounds_toArray, List.set_cons_zero, List.set_cons_succ]
            refine wpAnyH_done ?_ ?_ _
            · kernel_rfl
            clear hHeld
            go_wp2_with fail
            go_meet
            exact ⟨_, rfl, rfl, x17q, x17b⟩


        · have lt23 : w1.heap.size ≤ x4.heap.size := q6.size
          obtain ⟨x18, hw19, bb20, k21⟩ := new_zp x4
          have q22 : Old w1 x18 := q6.trans (k21 _)
          (rw [if_pos (by kernel_rfl)]; go_simp; rw [← hw19])
          clear hw19
          refine hK.out _ _ ⟨(F0 x18 q22).1, (F2 x18 q22).1⟩ (fun hHeld => ?_)
          clear hK K
          try simp only [Act.put, Array.getInternal_eq_getElem, List.getElem_toArray, List.getElem_cons_zero, List.getElem_cons_succ, List.setIfInBounds_toArray, List.set_cons_zero, List.set_cons_succ]
          refine wpAnyH_ready (rs := [6]) (by kernel_rfl) (by simp) ?_
          refine AllReadyH.cons rfl (fun K hK => ?_) AllReadyH.nil
          · (rw [if_pos (by kernel_rfl)]; go_simp; go_at_call 11; refine ((HOf _).out).mono ?_; rintro e x24 ⟨rfl, k25⟩)
            have q26 : Old w1 x24 := q22.trans (k25 _)
            have bb27 := Blk.keeps bb20 (k25 (fun _ => False)) (fun z => z)
            refine hK.out _ _ ⟨(F0 x24 q26).1, (F2 x24 q26).1⟩ (fun hHeld => ?_)
            clear hK K
            try simp only [Act.put, Array.getInternal_eq_getElem, List.getElem_toArray, List.getElem_cons_zero, List.getElem_cons_succ, List.setIfInBounds_toArray, List.set_cons_zero, List.set_cons_succ]
            refine wpAnyH_take (i := 7) (v := ?_) rfl (by kernel_rfl) (by kernel_rfl) (by kernel_rfl) (fun _ _ _ h => h) (Or.inl ⟨by kernel_rfl, ?_⟩) (by assumption) ?_
            rotate_left
            · (intro w hSw; (try dsimp only at hSw); go_simp) <;> (try (with_reducible rfl))
            try simp only [Act.put, Array.getInternal_eq_getElem, List.getElem_toArray, List.getElem_cons_zero, List.getElem_cons_succ, List.setIfInBounds_toArray, List.set_cons_zero, List.set_cons_succ]
            refine wpAnyH_take (i := 8) (v := ?_) rfl (by kernel_rfl) (by kernel_rfl) (by kernel_rfl) (fun _ _ _ h => h) (Or.inl ⟨by kernel_rfl, ?_⟩) (by assumption) ?_
            rotate_left
            · (intro w hSw; (try dsimp only at hSw); go_simp) <;> (try (with_reducible rfl))
            try simp only [Act.put, Array.getInternal_eq_getElem, List.getElem_toArray, List.getElem_cons_zero, List.getElem_cons_succ, List.setIfInBounds_toArray, List.set_cons_zero, List.set_cons_succ]
            refine wpAnyH_take (i := 9) (v := ?_) rfl (by kernel_rfl) (by kernel_rfl) (by kernel_rfl) (fun _ _ _ h => h) (Or.inl ⟨by kernel_rfl, ?_⟩) (by assumption) ?_
            rotate_left
            · (intro w hSw; (try dsimp only at hSw); go_simp) <;> (try (with_reducible rfl))
            try simp only [Act.put, Array.getInternal_eq_getElem, List.getElem_toArray, List.getElem_cons_zero, List.getElem_cons_succ, List.setIfInBounds_toArray, List.set_cons_zero, List.set_cons_succ]
            obtain ⟨t1, t2, t3, t5, t6⟩ := over_px (c := p) hpw bb27 rfl
            obtain ⟨x29, hs28⟩ : ∃ y, y = x24.setCells x4.heap.size 0 (pxc p) := ⟨_, rfl⟩
            rw [← hs28] at t5 t6
            have x29q : Old w1 x29 := old_over q26 lt23 t6
            have x29b := t5
            rw [HCP.out] at t1 t2 t3 hs28 x29b
            refine wpAnyH_ready (rs := [11]) (by kernel_rfl) (by simp) ?_
            refine AllReadyH.cons rfl (fun K hK => ?_) AllReadyH.nil
            (rw [if_pos (by kernel_rfl)]; simp only [Array.getInternal_eq_getElem, List.getElem_toArray, List.getElem_cons_zero, List.getElem_cons_succ]; refine wp_store_mid 28 _ _ rfl x4.heap.size 0 CP.toArray rfl rfl t1 t2 t3 ?_; simp only [List.toList_toArray, Act.put]; rw [← hs28])
            refine hK.out _ _ ⟨(F0 x29 x29q).1, (F2 x29 x29q).1⟩ (fun hHeld => ?_)
            clear hK K
            try simp only [Act.put, Array.getInternal_eq_getElem, List.getElem_toArray, List.getElem_cons_zero, List.getElem_cons_succ, List.setIfInBounds_toArray, List.set_cons_zero, List.set_cons_succ]
            refine wpAnyH_take (i := 12) (v := ?_) rfl (by kernel_rfl) (by kernel_rfl) (by kernel_rfl) (fun _ _ _ h => h) (Or.inl ⟨by kernel_rfl, ?_⟩) (by assumption) ?_
            rotate_left
            · (intro w hSw; (try dsimp only at hSw); go_simp) <;> (try (with_reducible rfl))
            try simp only [Act.put, Array.getInternal_eq_getElem, List.getElem_toArray, List.getElem_cons_zero, List.getElem_cons_succ, List.setIfInBounds_toArray, List.set_cons_zero, List.set_cons_succ]
            refine wpAnyH_done ?_ ?_ _
            · kernel_rfl
            clear hHeld
            go_wp2_with fail
            go_meet
            exact ⟨_, rfl, rfl, x29q, x29b⟩



      · have lt35 : w1.heap.size ≤ x1.heap.size := q3.size
        obtain ⟨x30, hw31, bb32, k33⟩ := new_zp x1
        have q34 : Old w1 x30 := q3.trans (k33 _)
        (rw [if_pos (by kernel_rfl)]; go_simp; rw [← hw31])
        clear hw31
        refine hK.out _ _ ⟨(F0 x30 q34).1, (F2 x30 q34).1⟩ (fun hHeld => ?_)
        clear hK K
        try simp only [Act.put, Array.getInternal_eq_getElem, List.getElem_toArray, List.getElem_cons_zero, List.getElem_cons_succ, List.setIfInBounds_toArray, List.set_cons_zero, List.set_cons_succ]
        refine wpAnyH_ready (rs := [5]) (by kernel_rfl) (by simp) ?_
        refine AllReadyH.cons rfl (fun K hK => ?_) AllReadyH.nil
        · (rw [if_pos (by kernel_rfl)]; go_simp; go_at_call 12; refine ((HWi _).out).mono ?_; rintro e x36 ⟨rfl, k37⟩)
          have q38 : Old w1 x36 := q34.trans (k37 _)
          have bb39 := Blk.keeps bb32 (k37 (fun _ => False)) (fun z => z)
          refine hK.out _ _ ⟨(F0 x36 q38).1, (F2 x36 q38).1⟩ (fun hHeld => ?_)
          clear hK K
          try simp only [Act.put, Array.getInternal_eq_getElem, List.getElem_toArray, List.getElem_cons_zero, List.getElem_cons_succ, List.setIfInBounds_toArray, List.set_cons_zero, List.set_cons_succ]
          refine wpAnyH_ready (rs := [6]) (by kernel_rfl) (by simp) ?_
          refine AllReadyH.cons rfl (fun K hK => ?_) AllReadyH.nil
          · (rw [if_pos (by kernel_rfl)]; go_simp; go_at_call 11; refine ((HOf _).out).mono ?_; rintro e x40 ⟨rfl, k41⟩)
            have q42 : Old w1 x40 := q38.trans (k41 _)
            have bb43 := Blk.keeps bb39 (k41 (fun _ => False)) (fun z => z)
            refine hK.out _ _ ⟨(F0 x40 q42).1, (F2 x40 q42).1⟩ (fun hHeld => ?_)
            clear hK K
            try simp only [Act.put, Array.getInternal_eq_getElem, List.getElem_toArray, List.getElem_cons_zero, List.getElem_cons_succ, List.setIfInBounds_toArray, List.set_cons_zero, List.set_cons_succ]
            refine wpAnyH_take (i := 7) (v := ?_) rfl (by kernel_rfl) (by kernel_rfl) (by kernel_rfl) (fun _ _ _ h => h) (Or.inl ⟨by kernel_rfl, ?_⟩) (by assumption) ?_
            rotate_left
            · (intro w hSw; (try dsimp only at hSw); go_simp) <;> (try (with_reducible rfl))
            try simp only [Act.put, Array.getInternal_eq_getElem, List.getElem_toArray, List.getElem_cons_zero, List.getElem_cons_succ, List.setIfInBounds_toArray, List.set_cons_zero, List.set_cons_succ]
            refine wpAnyH_take (i := 8) (v := ?_) rfl (by kernel_rfl) (by kernel_rfl) (by kernel_rfl) (fun _ _ _ h => h) (Or.inl ⟨by kernel_rfl, ?_⟩) (by assumption) ?_
            rotate_left
            · (intro w hSw; (try dsimp only at hSw); go_simp) <;> (try (with_reducible rfl))
            try simp only [Act.put, Array.getInternal_eq_getElem, List.getElem_toArray, List.getElem_cons_zero, List.getElem_cons_succ, List.setIfInBounds_toArray, List.set_cons_zero, List.set_cons_succ]
            refine wpAnyH_take (i := 9) (v := ?_) rfl (by kernel_rfl) (by kernel_rfl) (by kernel_rfl) (fun _ _ _ h => h) (Or.inl ⟨by kernel_rfl, ?_⟩) (by assumption) ?_
            rotate_left
            · (intro w hSw; (try dsimp only at hSw); go_simp) <;> (try (with_reducible rfl))
            try simp only [Act.put, Array.getInternal_eq_getElem, List.getElem_toArray, List.getElem_cons_zero, List.getElem_cons_succ, List.setIfInBounds_toArray, List.set_cons_zero, List.set_cons_succ]
            obtain ⟨t1, t2, t3, t5, t6⟩ := over_px (c := p) hpw bb43 rfl
            obtain ⟨x45, hs44⟩ : ∃ y, y = x40.setCells x1.heap.size 0 (pxc p) := ⟨_, rfl⟩
            rw [← hs44] at t5 t6
            have x45q : Old w1 x45 := old_over q42 lt35 t6
            have x45b := t5
            rw [HCP.out] at t1 t2 t3 hs44 x45b
            refine wpAnyH_ready (rs := [11]) (by kernel_rfl) (by simp) ?_
            refine AllReadyH.cons rfl (fun K hK => ?_) AllReadyH.nil
            (rw [if_pos (by kernel_rfl)]; simp only [Array.getInternal_eq_getElem, List.getElem_toArray, List.getElem_cons_zero, List.getElem_cons_succ]; refine wp_store_mid 28 _ _ rfl x1.heap.size 0 CP.toArray rfl rfl t1 t2 t3 ?_; simp only [List.toList_toArray, Act.put]; rw [← hs44])
            refine hK.out _ _ ⟨(F0 x45 x45q).1, (F2 x45 x45q).1⟩ (fun hHeld => ?_)
            clear hK K
            try simp only [Act.put, Array.getInternal_eq_getElem, List.getElem_toArray, List.getElem_cons_zero, List.getElem_cons_succ, List.setIfInBounds_toArray, List.set_cons_zero, List.set_cons_succ]
            refine wpAnyH_take (i := 12) (v := ?_) rfl (by kernel_rfl) (by kernel_rfl) (by kernel_rfl) (fun _ _ _ h => h) (Or.inl ⟨by kernel_rfl, ?_⟩) (by assumption) ?_
            rotate_left
            · (intro w hSw; (try dsimp only at hSw); go_simp) <;> (try (with_reducible rfl))
            try simp only [Act.put, Array.getInternal_eq_getElem, List.getElem_toArray, List.getElem_cons_zero, List.getElem_cons_succ, List.setIfInBounds_toArray, List.set_cons_zero, List.set_cons_succ]
            refine wpAnyH_done ?_ ?_ _
            · kernel_rfl
            clear hHeld
            go_wp2_with fail
            go_meet
            exact ⟨_, rfl, rfl, x45q, x45b⟩




    · have lt51 : w1.heap.size ≤ xd.heap.size := kxd.size
      obtain ⟨x46, hw47, bb48, k49⟩ := new_zp xd
      have q50 : Old w1 x46 := kxd.trans (k49 _)
      (rw [if_pos (by kernel_rfl)]; go_simp; rw [← hw47])
      clear hw47
      refine hK.out _ _ ⟨(F0 x46 q50).1, (F2 x46 q50).1⟩ (fun hHeld => ?_)
      clear hK K
      try simp only [Act.put, Array.getInternal_eq_getElem, List.getElem_toArray, List.getElem_cons_zero, List.getElem_cons_succ, List.setIfInBounds_toArray, List.set_cons_zero, List.set_cons_succ]
      refine wpAnyH_ready (rs := [4]) (by kernel_rfl) (by simp) ?_
      refine AllReadyH.cons rfl (fun K hK => ?_) AllReadyH.nil
      · (rw [if_pos (by kernel_rfl)]; go_simp; go_at_call 13; refine ((HWd _).out).mono ?_; rintro e x52 ⟨rfl, k53⟩)
        have q54 : Old w1 x52 := q50.trans (k53 _)
        have bb55 := Blk.keeps bb48 (k53 (fun _ => False)) (fun z => z)
        refine hK.out _ _ ⟨(F0 x52 q54).1, (F2 x52 q54).1⟩ (fun hHeld => ?_)
        clear hK K
        try simp only [Act.put, Array.getInternal_eq_getElem, List.getElem_toArray, List.getElem_cons_zero, List.getElem_cons_succ, List.setIfInBounds_toArray, List.set_cons_zero, List.set_cons_succ]
        refine wpAnyH_ready (rs := [5]) (by kernel_rfl) (by simp) ?_
        refine AllReadyH.cons rfl (fun K hK => ?_) AllReadyH.nil
        · (rw [if_pos (by kernel_rfl)]; go_simp; go_at_call 12; refine ((HWi _).out).mono ?_; rintro e x56 ⟨rfl, k57⟩)
          have q58 : Old w1 x56 := q54.trans (k57 _)
          have bb59 := Blk.keeps bb55 (k57 (fun _ => False)) (fun z => z)
          refine hK.out _ _ ⟨(F0 x56 q58).1, (F2 x56 q58).1⟩ (fun hHeld => ?_)
          clear hK K
          try simp only [Act.put, Array.getInternal_eq_getElem, List.getElem_toArray, List.getElem_cons_zero, List.getElem_cons_succ, List.setIfInBounds_toArray, List.set_cons_zero, List.set_cons_succ]
          refine wpAnyH_ready (rs := [6]) (by kernel_rfl) (by simp) ?_
          refine AllReadyH.cons rfl (fun K hK => ?_) AllReadyH.nil
          · (rw [if_pos (by kernel_rfl)]; go_simp; go_at_call 11; refine ((HOf _).out).mono ?_; rintro e x60 ⟨rfl, k61⟩)
            have q62 : Old w1 x60 := q58.trans (k61 _)
            have bb63 := Blk.keeps bb59 (k61 (fun _ => False)) (fun z => z)
            refine hK.out _ _ ⟨(F0 x60 q62).1, (F2 x60 q62).1⟩ (fun hHeld => ?_)
            clear hK K
            try simp only [Act.put, Array.getInternal_eq_getElem, List.getElem_toArray, List.getElem_cons_zero, List.getElem_cons_succ, List.setIfInBounds_toArray, List.set_cons_zero, List.set_cons_succ]
            refine wpAnyH_take (i := 7) (v := ?_) rfl (by kernel_rfl) (by kernel_rfl) (by kernel_rfl) (fun _ _ _ h => h) (Or.inl ⟨by kernel_rfl, ?_⟩) (by assumption) ?_
            rotate_left
            · (intro w hSw; (try dsimp only at hSw); go_simp) <;> (try (with_reducible rfl))
            try simp only [Act.put, Array.getInternal_eq_getElem, List.getElem_toArray, List.getElem_cons_zero, List.getElem_cons_succ, List.setIfInBounds_toArray, List.set_cons_zero, List.set_cons_succ]
            refine wpAnyH_take (i := 8) (v := ?_) rfl (by kernel_rfl) (by kernel_rfl) (by kernel_rfl) (fun _ _ _ h => h) (Or.inl ⟨by kernel_rfl, ?_⟩) (by assumption) ?_
            rotate_left
            · (intro w hSw; (try dsimp only at hSw); go_simp) <;> (try (with_reducible rfl))
            try simp only [Act.put, Array.getInternal_eq_getElem, List.getElem_toArray, List.getElem_cons_zero, List.getElem_cons_succ, List.setIfInBounds_toArray, List.set_cons_zero, List.set_cons_succ]
            refine wpAnyH_take (i := 9) (v := ?_) rfl (by kernel_rfl) (by kernel_rfl) (by kernel_rfl) (fun _ _ _ h => h) (Or.inl ⟨by kernel_rfl, ?_⟩) (by assumption) ?_
            rotate_left
            · (intro w hSw; (try dsimp only at hSw); go_simp) <;> (try (with_reducible rfl))
            try simp only [Act.put, Array.getInternal_eq_getElem, List.getElem_toArray, List.getElem_cons_zero, List.getElem_cons_succ, List.setIfInBounds_toArray, List.set_cons_zero, List.set_cons_succ]
            obtain ⟨t1, t2, t3, t5, t6⟩ := over_px (c := p) hpw bb63 rfl
            obtain ⟨x65, hs64⟩ : ∃ y, y = x60.setCells xd.heap.size 0 (pxc p) := ⟨_, rfl⟩
            rw [← hs64] at t5 t6
            have x65q : Old w1 x65 := old_over q62 lt51 t6
            have x65b := t5
            rw [HCP.out] at t1 t2 t3 hs64 x65b
            refine wpAnyH_ready (rs := [11]) (by kernel_rfl) (by simp) ?_
            refine AllReadyH.cons rfl (fun K hK => ?_) AllReadyH.nil
            (rw [if_pos (by kernel_rfl)]; simp only [Array.getInternal_eq_getElem, List.getElem_toArray, List.getElem_cons_zero, List.getElem_cons_succ]; refine wp_store_mid 28 _ _ rfl xd.heap.size 0 CP.toArray rfl rfl t1 t2 t3 ?_; simp only [List.toList_toArray, Act.put]; rw [← hs64])
            refine hK.out _ _ ⟨(F0 x65 x65q).1, (F2 x65 x65q).1⟩ (fun hHeld => ?_)
            clear hK K
            try simp only [Act.put, Array.getInternal_eq_getElem, List.getElem_toArray, List.getElem_cons_zero, List.getElem_cons_succ, List.setIfInBounds_toArray, List.set_cons_zero, List.set_cons_succ]
            refine wpAnyH_take (i := 12) (v := ?_) rfl (by kernel_rfl) (by kernel_rfl) (by kernel_rfl) (fun _ _ _ h => h) (Or.inl ⟨by kernel_rfl, ?_⟩) (by assumption) ?_
            rotate_left
            · (intro w hSw; (try dsimp only at hSw); go_simp) <;> (try (with_reducible rfl))
            try simp only [Act.put, Array.getInternal_eq_getElem, List.getElem_toArray, List.getElem_cons_zero, List.getElem_cons_succ, List.setIfInBounds_toArray, List.set_cons_zero, List.set_cons_succ]
            refine wpAnyH_done ?_ ?_ _
            · kernel_rfl
            clear hHeld
            go_wp2_with fail
            go_meet
            exact ⟨_, rfl, rfl, x65q, x65b⟩





  case rest =>
  obtain ⟨B7, rfl, rfl, kwp0, bwp0⟩ := hcut
  obtain ⟨wp, hwc⟩ : ∃ v, v = wc := ⟨_, rfl⟩
  rw [← hwc] at kwp0 bwp0 ⊢
  clear hwc
  have Kwp : Hid (∀ S, Keeps S w wp) := Lib.hid (fun S => (K1.out S).trans (kwp0.all S))
  rw [← HCP.out] at bwp0
  have HEV := fun (wq : World) (hC : Old wp wq) => HEV0.out.keeps (fun S => (Kwp.out S).trans (hC.all S))
  have F0_wp := fun (wq : World) (hC : Old wp wq) => F0 wq (kwp0.trans hC)
  have F1_wp := fun (wq : World) (hC : Old wp wq) => F1 wq (kwp0.trans hC)
  have F2_wp := fun (wq : World) (hC : Old wp wq) => F2 wq (kwp0.trans hC)
  have F3 := px_facts hpw bwp0
  have Z3 := Lib.hid (px_sz hpw)
  have ZA3 := Lib.hid (ad_sz hpw)
  rw [HCP.out] at F3 Z3
  rw [HAP.out] at F3 ZA3
  clear kwp0 bwp0
  go_upto_region 4 with (fail)
  try simp only [Act.put]
  go_cut [9, 10] (fun s7 s8 wx => ∃ B, s7 = .pointer (some ⟨B, 0, none⟩) ∧ s8 = .int .i64 0 ∧ Old wp wx ∧ Blk wx B 28 CQ)
  case first => as_aux_lemma =>
    refine wp_region_held_drew (S := fun w' => w'.rangeAt (w.heap.size + 1) 0 CB ∧ w'.cell? ⟨(w.heap.size + 1 + 1), 1, none⟩ = some (.int .i64 j)) (by kernel_rfl) ⟨(F1_wp wp.drew (Old.refl wp).drew).1, (F2_wp wp.drew (Old.refl wp).drew).2⟩ (fun hHeld => ?_)
    obtain ⟨xd, hxd⟩ : ∃ y, y = wp.drew := ⟨_, rfl⟩
    rw [← hxd] at hHeld ⊢
    have kxd : Old wp xd := by rw [hxd]; exact (Old.refl wp).drew
    clear hxd
    refine' wpAnyH_take (i := 0) (v := _) rfl (by kernel_rfl) (by kernel_rfl) (by kernel_rfl) (fun _ _ _ h => h) (yieldsIf_load_mid (by kernel_rfl) _ _ rfl _ _ rfl _ _ (fun w hSw => hSw.1) Tryz.underlying24 rfl Z1.out) (by assumption) ?_
    try simp only [Act.put, Array.getInternal_eq_getElem, List.getElem_toArray, List.getElem_cons_zero, List.getElem_cons_succ, List.setIfInBounds_toArray, List.set_cons_zero, List.set_cons_succ]
    refine wpAnyH_take (i := 1) (v := ?_) rfl (by kernel_rfl) (by kernel_rfl) (by kernel_rfl) (fun _ _ _ h => h) (Or.inl ⟨by kernel_rfl, ?_⟩) (by assumption) ?_
    rotate_left
    · (intro w hSw; (try dsimp only at hSw); go_simp) <;> (try (with_reducible rfl))
    try simp only [Act.put, Array.getInternal_eq_getElem, List.getElem_toArray, List.getElem_cons_zero, List.getElem_cons_succ, List.setIfInBounds_toArray, List.set_cons_zero, List.set_cons_succ]
    refine wpAnyH_take (i := 2) (v := ?_) rfl (by kernel_rfl) (by kernel_rfl) (by kernel_rfl) (fun _ _ _ h => h) (Or.inl ⟨by kernel_rfl, ?_⟩) (by assumption) ?_
    rotate_left
    · (intro w hSw; have hcell := hSw.2; clear hSw; go_simp) <;> (try (with_reducible rfl))
    try simp only [Act.put, Array.getInternal_eq_getElem, List.getElem_toArray, List.getElem_cons_zero, List.getElem_cons_succ, List.setIfInBounds_toArray, List.set_cons_zero, List.set_cons_succ]
    refine' wpAnyH_take (i := 3) (v := _) rfl (by kernel_rfl) (by kernel_rfl) (by kernel_rfl) (fun _ _ _ h => h) (yieldsIf_load_mid (by kernel_rfl) _ _ rfl _ _ rfl _ _ (fun w hSw => hSw.1) Tryz.underlying24 rfl Z1.out) (by assumption) ?_
    try simp only [Act.put, Array.getInternal_eq_getElem, List.getElem_toArray, List.getElem_cons_zero, List.getElem_cons_succ, List.setIfInBounds_toArray, List.set_cons_zero, List.set_cons_succ]
    refine wpAnyH_ready (rs := [4, 10]) (by kernel_rfl) (by simp) ?_
    refine AllReadyH.cons rfl (fun K hK => ?_) (AllReadyH.cons rfl (fun K hK => ?_) AllReadyH.nil)
    · (rw [if_pos (by kernel_rfl)]; go_simp; go_at_call 13; refine ((HXd _).out).mono ?_; rintro e x1 ⟨rfl, k2⟩)
      have q3 : Old wp x1 := kxd.trans (k2 _)
      refine hK.out _ _ ⟨(F1_wp x1 q3).1, (F2_wp x1 q3).2⟩ (fun hHeld => ?_)
      clear hK K
      try simp only [Act.put, Array.getInternal_eq_getElem, List.getElem_toArray, List.getElem_cons_zero, List.getElem_cons_succ, List.setIfInBounds_toArray, List.set_cons_zero, List.set_cons_succ]
      refine wpAnyH_ready (rs := [5, 10]) (by kernel_rfl) (by simp) ?_
      refine AllReadyH.cons rfl (fun K hK => ?_) (AllReadyH.cons rfl (fun K hK => ?_) AllReadyH.nil)
      · (rw [if_pos (by kernel_rfl)]; go_simp; go_at_call 12; refine ((HXi _).out).mono ?_; rintro e x4 ⟨rfl, k5⟩)
        have q6 : Old wp x4 := q3.trans (k5 _)
        refine hK.out _ _ ⟨(F1_wp x4 q6).1, (F2_wp x4 q6).2⟩ (fun hHeld => ?_)
        clear hK K
        try simp only [Act.put, Array.getInternal_eq_getElem, List.getElem_toArray, List.getElem_cons_zero, List.getElem_cons_succ, List.setIfInBounds_toArray, List.set_cons_zero, List.set_cons_succ]
        refine wpAnyH_ready (rs := [6, 10]) (by kernel_rfl) (by simp) ?_
        refine AllReadyH.cons rfl (fun K hK => ?_) (AllReadyH.cons rfl (fun K hK => ?_) AllReadyH.nil)
        · (rw [if_pos (by kernel_rfl)]; go_simp; go_at_call 11; refine ((HXf _).out).mono ?_; rintro e x7 ⟨rfl, k8⟩)
          have q9 : Old wp x7 := q6.trans (k8 _)
          refine hK.out _ _ ⟨(F1_wp x7 q9).1, (F2_wp x7 q9).2⟩ (fun hHeld => ?_)
          clear hK K
          try simp only [Act.put, Array.getInternal_eq_getElem, List.getElem_toArray, List.getElem_cons_zero, List.getElem_cons_succ, List.setIfInBounds_toArray, List.set_cons_zero, List.set_cons_succ]
          refine wpAnyH_take (i := 7) (v := ?_) rfl (by kernel_rfl) (by kernel_rfl) (by kernel_rfl) (fun _ _ _ h => h) (Or.inl ⟨by kernel_rfl, ?_⟩) (by assumption) ?_
          rotate_left
          · (intro w hSw; (try dsimp only at hSw); go_simp) <;> (try (with_reducible rfl))
          try simp only [Act.put, Array.getInternal_eq_getElem, List.getElem_toArray, List.getElem_cons_zero, List.getElem_cons_succ, List.setIfInBounds_toArray, List.set_cons_zero, List.set_cons_succ]
          refine wpAnyH_take (i := 8) (v := ?_) rfl (by kernel_rfl) (by kernel_rfl) (by kernel_rfl) (fun _ _ _ h => h) (Or.inl ⟨by kernel_rfl, ?_⟩) (by assumption) ?_
          rotate_left
          · (intro w hSw; (try dsimp only at hSw); go_simp) <;> (try (with_reducible rfl))
          try simp only [Act.put, Array.getInternal_eq_getElem, List.getElem_toArray, List.getElem_cons_zero, List.getElem_cons_succ, List.setIfInBounds_toArray, List.set_cons_zero, List.set_cons_succ]
          refine wpAnyH_take (i := 9) (v := ?_) rfl (by kernel_rfl) (by kernel_rfl) (by kernel_rfl) (fun _ _ _ h => h) (Or.inl ⟨by kernel_rfl, ?_⟩) (by assumption) ?_
          rotate_left
          · (intro w hSw; (try dsimp only at hSw); go_simp) <;> (try (with_reducible rfl))
          try simp only [Act.put, Array.getInternal_eq_getElem, List.getElem_toArray, List.getElem_cons_zero, List.getElem_cons_succ, List.setIfInBounds_toArray, List.set_cons_zero, List.set_cons_succ]
          refine wpAnyH_ready (rs := [10]) (by kernel_rfl) (by simp) ?_
          refine AllReadyH.cons rfl (fun K hK => ?_) AllReadyH.nil
          · have lt15 : wp.heap.size ≤ x7.heap.size := q9.size
            obtain ⟨x10, hw11, bb12, k13⟩ := new_zp x7
            have q14 : Old wp x10 := q9.trans (k13 _)
            (rw [if_pos (by kernel_rfl)]; go_simp; rw [← hw11])
            clear hw11
            refine hK.out _ _ ⟨(F1_wp x10 q14).1, (F2_wp x10 q14).2⟩ (fun hHeld => ?_)
            clear hK K
            try simp only [Act.put, Array.getInternal_eq_getElem, List.getElem_toArray, List.getElem_cons_zero, List.getElem_cons_succ, List.setIfInBounds_toArray, List.set_cons_zero, List.set_cons_succ]
            obtain ⟨t1, t2, t3, t5, t6⟩ := over_px (c := q) hqw bb12 rfl
            obtain ⟨x17, hs16⟩ : ∃ y, y = x10.setCells x7.heap.size 0 (pxc q) := ⟨_, rfl⟩
            rw [← hs16] at t5 t6
            have x17q : Old wp x17 := old_over q14 lt15 t6
            have x17b := t5
            rw [HCQ.out] at t1 t2 t3 hs16 x17b
            refine wpAnyH_ready (rs := [11]) (by kernel_rfl) (by simp) ?_
            refine AllReadyH.cons rfl (fun K hK => ?_) AllReadyH.nil
            (rw [if_pos (by kernel_rfl)]; simp only [Array.getInternal_eq_getElem, List.getElem_toArray, List.getElem_cons_zero, List.getElem_cons_succ]; refine wp_store_mid 28 _ _ rfl x7.heap.size 0 CQ.toArray rfl rfl t1 t2 t3 ?_; simp only [List.toList_toArray, Act.put]; rw [← hs16])
            refine hK.out _ _ ⟨(F1_wp x17 x17q).1, (F2_wp x17 x17q).2⟩ (fun hHeld => ?_)
            clear hK K
            try simp only [Act.put, Array.getInternal_eq_getElem, List.getElem_toArray, List.getElem_cons_zero, List.getElem_cons_succ, List.setIfInBounds_toArray, List.set_cons_zero, List.set_cons_succ]
            refine wpAnyH_take (i := 12) (v := ?_) rfl (by kernel_rfl) (by kernel_rfl) (by kernel_rfl) (fun _ _ _ h => h) (Or.inl ⟨by kernel_rfl, ?_⟩) (by assumption) ?_
            rotate_left
            · (intro w hSw; (try dsimp only at hSw); go_simp) <;> (try (with_reducible rfl))
            try simp only [Act.put, Array.getInternal_eq_getElem, List.getElem_toArray, List.getElem_cons_zero, List.getElem_cons_succ, List.setIfInBounds_toArray, List.set_cons_zero, List.set_cons_succ]
            refine wpAnyH_done ?_ ?_ _
            · kernel_rfl
            clear hHeld
            go_wp2_with fail
            go_meet
            exact ⟨_, rfl, rfl, x17q, x17b⟩


        · have lt23 : wp.heap.size ≤ x4.heap.size := q6.size
          obtain ⟨x18, hw19, bb20, k21⟩ := new_zp x4
          have q22 : Old wp x18 := q6.trans (k21 _)
          (rw [if_pos (by kernel_rfl)]; go_simp; rw [← hw19])
          clear hw19
          refine hK.out _ _ ⟨(F1_wp x18 q22).1, (F2_wp x18 q22).2⟩ (fun hHeld => ?_)
          clear hK K
          try simp only [Act.put, Array.getInternal_eq_getElem, List.getElem_toArray, List.getElem_cons_zero, List.getElem_cons_succ, List.setIfInBounds_toArray, List.set_cons_zero, List.set_cons_succ]
          refine wpAnyH_ready (rs := [6]) (by kernel_rfl) (by simp) ?_
          refine AllReadyH.cons rfl (fun K hK => ?_) AllReadyH.nil
          · (rw [if_pos (by kernel_rfl)]; go_simp; go_at_call 11; refine ((HXf _).out).mono ?_; rintro e x24 ⟨rfl, k25⟩)
            have q26 : Old wp x24 := q22.trans (k25 _)
            have bb27 := Blk.keeps bb20 (k25 (fun _ => False)) (fun z => z)
            refine hK.out _ _ ⟨(F1_wp x24 q26).1, (F2_wp x24 q26).2⟩ (fun hHeld => ?_)
            clear hK K
            try simp only [Act.put, Array.getInternal_eq_getElem, List.getElem_toArray, List.getElem_cons_zero, List.getElem_cons_succ, List.setIfInBounds_toArray, List.set_cons_zero, List.set_cons_succ]
            refine wpAnyH_take (i := 7) (v := ?_) rfl (by kernel_rfl) (by kernel_rfl) (by kernel_rfl) (fun _ _ _ h => h) (Or.inl ⟨by kernel_rfl, ?_⟩) (by assumption) ?_
            rotate_left
            · (intro w hSw; (try dsimp only at hSw); go_simp) <;> (try (with_reducible rfl))
            try simp only [Act.put, Array.getInternal_eq_getElem, List.getElem_toArray, List.getElem_cons_zero, List.getElem_cons_succ, List.setIfInBounds_toArray, List.set_cons_zero, List.set_cons_succ]
            refine wpAnyH_take (i := 8) (v := ?_) rfl (by kernel_rfl) (by kernel_rfl) (by kernel_rfl) (fun _ _ _ h => h) (Or.inl ⟨by kernel_rfl, ?_⟩) (by assumption) ?_
            rotate_left
            · (intro w hSw; (try dsimp only at hSw); go_simp) <;> (try (with_reducible rfl))
            try simp only [Act.put, Array.getInternal_eq_getElem, List.getElem_toArray, List.getElem_cons_zero, List.getElem_cons_succ, List.setIfInBounds_toArray, List.set_cons_zero, List.set_cons_succ]
            refine wpAnyH_take (i := 9) (v := ?_) rfl (by kernel_rfl) (by kernel_rfl) (by kernel_rfl) (fun _ _ _ h => h) (Or.inl ⟨by kernel_rfl, ?_⟩) (by assumption) ?_
            rotate_left
            · (intro w hSw; (try dsimp only at hSw); go_simp) <;> (try (with_reducible rfl))
            try simp only [Act.put, Array.getInternal_eq_getElem, List.getElem_toArray, List.getElem_cons_zero, List.getElem_cons_succ, List.setIfInBounds_toArray, List.set_cons_zero, List.set_cons_succ]
            obtain ⟨t1, t2, t3, t5, t6⟩ := over_px (c := q) hqw bb27 rfl
            obtain ⟨x29, hs28⟩ : ∃ y, y = x24.setCells x4.heap.size 0 (pxc q) := ⟨_, rfl⟩
            rw [← hs28] at t5 t6
            have x29q : Old wp x29 := old_over q26 lt23 t6
            have x29b := t5
            rw [HCQ.out] at t1 t2 t3 hs28 x29b
            refine wpAnyH_ready (rs := [11]) (by kernel_rfl) (by simp) ?_
            refine AllReadyH.cons rfl (fun K hK => ?_) AllReadyH.nil
            (rw [if_pos (by kernel_rfl)]; simp only [Array.getInternal_eq_getElem, List.getElem_toArray, List.getElem_cons_zero, List.getElem_cons_succ]; refine wp_store_mid 28 _ _ rfl x4.heap.size 0 CQ.toArray rfl rfl t1 t2 t3 ?_; simp only [List.toList_toArray, Act.put]; rw [← hs28])
            refine hK.out _ _ ⟨(F1_wp x29 x29q).1, (F2_wp x29 x29q).2⟩ (fun hHeld => ?_)
            clear hK K
            try simp only [Act.put, Array.getInternal_eq_getElem, List.getElem_toArray, List.getElem_cons_zero, List.getElem_cons_succ, List.setIfInBounds_toArray, List.set_cons_zero, List.set_cons_succ]
            refine wpAnyH_take (i := 12) (v := ?_) rfl (by kernel_rfl) (by kernel_rfl) (by kernel_rfl) (fun _ _ _ h => h) (Or.inl ⟨by kernel_rfl, ?_⟩) (by assumption) ?_
            rotate_left
            · (intro w hSw; (try dsimp only at hSw); go_simp) <;> (try (with_reducible rfl))
            try simp only [Act.put, Array.getInternal_eq_getElem, List.getElem_toArray, List.getElem_cons_zero, List.getElem_cons_succ, List.setIfInBounds_toArray, List.set_cons_zero, List.set_cons_succ]
            refine wpAnyH_done ?_ ?_ _
            · kernel_rfl
            clear hHeld
            go_wp2_with fail
            go_meet
            exact ⟨_, rfl, rfl, x29q, x29b⟩



      · have lt35 : wp.heap.size ≤ x1.heap.size := q3.size
        obtain ⟨x30, hw31, bb32, k33⟩ := new_zp x1
        have q34 : Old wp x30 := q3.trans (k33 _)
        (rw [if_pos (by kernel_rfl)]; go_simp; rw [← hw31])
        clear hw31
        refine hK.out _ _ ⟨(F1_wp x30 q34).1, (F2_wp x30 q34).2⟩ (fun hHeld => ?_)
        clear hK K
        try simp only [Act.put, Array.getInternal_eq_getElem, List.getElem_toArray, List.getElem_cons_zero, List.getElem_cons_succ, List.setIfInBounds_toArray, List.set_cons_zero, List.set_cons_succ]
        refine wpAnyH_ready (rs := [5]) (by kernel_rfl) (by simp) ?_
        refine AllReadyH.cons rfl (fun K hK => ?_) AllReadyH.nil
        · (rw [if_pos (by kernel_rfl)]; go_simp; go_at_call 12; refine ((HXi _).out).mono ?_; rintro e x36 ⟨rfl, k37⟩)
          have q38 : Old wp x36 := q34.trans (k37 _)
          have bb39 := Blk.keeps bb32 (k37 (fun _ => False)) (fun z => z)
          refine hK.out _ _ ⟨(F1_wp x36 q38).1, (F2_wp x36 q38).2⟩ (fun hHeld => ?_)
          clear hK K
          try simp only [Act.put, Array.getInternal_eq_getElem, List.getElem_toArray, List.getElem_cons_zero, List.getElem_cons_succ, List.setIfInBounds_toArray, List.set_cons_zero, List.set_cons_succ]
          refine wpAnyH_ready (rs := [6]) (by kernel_rfl) (by simp) ?_
          refine AllReadyH.cons rfl (fun K hK => ?_) AllReadyH.nil
          · (rw [if_pos (by kernel_rfl)]; go_simp; go_at_call 11; refine ((HXf _).out).mono ?_; rintro e x40 ⟨rfl, k41⟩)
            have q42 : Old wp x40 := q38.trans (k41 _)
            have bb43 := Blk.keeps bb39 (k41 (fun _ => False)) (fun z => z)
            refine hK.out _ _ ⟨(F1_wp x40 q42).1, (F2_wp x40 q42).2⟩ (fun hHeld => ?_)
            clear hK K
            try simp only [Act.put, Array.getInternal_eq_getElem, List.getElem_toArray, List.getElem_cons_zero, List.getElem_cons_succ, List.setIfInBounds_toArray, List.set_cons_zero, List.set_cons_succ]
            refine wpAnyH_take (i := 7) (v := ?_) rfl (by kernel_rfl) (by kernel_rfl) (by kernel_rfl) (fun _ _ _ h => h) (Or.inl ⟨by kernel_rfl, ?_⟩) (by assumption) ?_
            rotate_left
            · (intro w hSw; (try dsimp only at hSw); go_simp) <;> (try (with_reducible rfl))
            try simp only [Act.put, Array.getInternal_eq_getElem, List.getElem_toArray, List.getElem_cons_zero, List.getElem_cons_succ, List.setIfInBounds_toArray, List.set_cons_zero, List.set_cons_succ]
            refine wpAnyH_take (i := 8) (v := ?_) rfl (by kernel_rfl) (by kernel_rfl) (by kernel_rfl) (fun _ _ _ h => h) (Or.inl ⟨by kernel_rfl, ?_⟩) (by assumption) ?_
            rotate_left
            · (intro w hSw; (try dsimp only at hSw); go_simp) <;> (try (with_reducible rfl))
            try simp only [Act.put, Array.getInternal_eq_getElem, List.getElem_toArray, List.getElem_cons_zero, List.getElem_cons_succ, List.setIfInBounds_toArray, List.set_cons_zero, List.set_cons_succ]
            refine wpAnyH_take (i := 9) (v := ?_) rfl (by kernel_rfl) (by kernel_rfl) (by kernel_rfl) (fun _ _ _ h => h) (Or.inl ⟨by kernel_rfl, ?_⟩) (by assumption) ?_
            rotate_left
            · (intro w hSw; (try dsimp only at hSw); go_simp) <;> (try (with_reducible rfl))
            try simp only [Act.put, Array.getInternal_eq_getElem, List.getElem_toArray, List.getElem_cons_zero, List.getElem_cons_succ, List.setIfInBounds_toArray, List.set_cons_zero, List.set_cons_succ]
            obtain ⟨t1, t2, t3, t5, t6⟩ := over_px (c := q) hqw bb43 rfl
            obtain ⟨x45, hs44⟩ : ∃ y, y = x40.setCells x1.heap.size 0 (pxc q) := ⟨_, rfl⟩
            rw [← hs44] at t5 t6
            have x45q : Old wp x45 := old_over q42 lt35 t6
            have x45b := t5
            rw [HCQ.out] at t1 t2 t3 hs44 x45b
            refine wpAnyH_ready (rs := [11]) (by kernel_rfl) (by simp) ?_
            refine AllReadyH.cons rfl (fun K hK => ?_) AllReadyH.nil
            (rw [if_pos (by kernel_rfl)]; simp only [Array.getInternal_eq_getElem, List.getElem_toArray, List.getElem_cons_zero, List.getElem_cons_succ]; refine wp_store_mid 28 _ _ rfl x1.heap.size 0 CQ.toArray rfl rfl t1 t2 t3 ?_; simp only [List.toList_toArray, Act.put]; rw [← hs44])
            refine hK.out _ _ ⟨(F1_wp x45 x45q).1, (F2_wp x45 x45q).2⟩ (fun hHeld => ?_)
            clear hK K
            try simp only [Act.put, Array.getInternal_eq_getElem, List.getElem_toArray, List.getElem_cons_zero, List.getElem_cons_succ, List.setIfInBounds_toArray, List.set_cons_zero, List.set_cons_succ]
            refine wpAnyH_take (i := 12) (v := ?_) rfl (by kernel_rfl) (by kernel_rfl) (by kernel_rfl) (fun _ _ _ h => h) (Or.inl ⟨by kernel_rfl, ?_⟩) (by assumption) ?_
            rotate_left
            · (intro w hSw; (try dsimp only at hSw); go_simp) <;> (try (with_reducible rfl))
            try simp only [Act.put, Array.getInternal_eq_getElem, List.getElem_toArray, List.getElem_cons_zero, List.getElem_cons_succ, List.setIfInBounds_toArray, List.set_cons_zero, List.set_cons_succ]
            refine wpAnyH_done ?_ ?_ _
            · kernel_rfl
            clear hHeld
            go_wp2_with fail
            go_meet
            exact ⟨_, rfl, rfl, x45q, x45b⟩




    · have lt51 : wp.heap.size ≤ xd.heap.size := kxd.size
      obtain ⟨x46, hw47, bb48, k49⟩ := new_zp xd
      have q50 : Old wp x46 := kxd.trans (k49 _)
      (rw [if_pos (by kernel_rfl)]; go_simp; rw [← hw47])
      clear hw47
      refine hK.out _ _ ⟨(F1_wp x46 q50).1, (F2_wp x46 q50).2⟩ (fun hHeld => ?_)
      clear hK K
      try simp only [Act.put, Array.getInternal_eq_getElem, List.getElem_toArray, List.getElem_cons_zero, List.getElem_cons_succ, List.setIfInBounds_toArray, List.set_cons_zero, List.set_cons_succ]
      refine wpAnyH_ready (rs := [4]) (by kernel_rfl) (by simp) ?_
      refine AllReadyH.cons rfl (fun K hK => ?_) AllReadyH.nil
      · (rw [if_pos (by kernel_rfl)]; go_simp; go_at_call 13; refine ((HXd _).out).mono ?_; rintro e x52 ⟨rfl, k53⟩)
        have q54 : Old wp x52 := q50.trans (k53 _)
        have bb55 := Blk.keeps bb48 (k53 (fun _ => False)) (fun z => z)
        refine hK.out _ _ ⟨(F1_wp x52 q54).1, (F2_wp x52 q54).2⟩ (fun hHeld => ?_)
        clear hK K
        try simp only [Act.put, Array.getInternal_eq_getElem, List.getElem_toArray, List.getElem_cons_zero, List.getElem_cons_succ, List.setIfInBounds_toArray, List.set_cons_zero, List.set_cons_succ]
        refine wpAnyH_ready (rs := [5]) (by kernel_rfl) (by simp) ?_
        refine AllReadyH.cons rfl (fun K hK => ?_) AllReadyH.nil
        · (rw [if_pos (by kernel_rfl)]; go_simp; go_at_call 12; refine ((HXi _).out).mono ?_; rintro e x56 ⟨rfl, k57⟩)
          have q58 : Old wp x56 := q54.trans (k57 _)
          have bb59 := Blk.keeps bb55 (k57 (fun _ => False)) (fun z => z)
          refine hK.out _ _ ⟨(F1_wp x56 q58).1, (F2_wp x56 q58).2⟩ (fun hHeld => ?_)
          clear hK K
          try simp only [Act.put, Array.getInternal_eq_getElem, List.getElem_toArray, List.getElem_cons_zero, List.getElem_cons_succ, List.setIfInBounds_toArray, List.set_cons_zero, List.set_cons_succ]
          refine wpAnyH_ready (rs := [6]) (by kernel_rfl) (by simp) ?_
          refine AllReadyH.cons rfl (fun K hK => ?_) AllReadyH.nil
          · (rw [if_pos (by kernel_rfl)]; go_simp; go_at_call 11; refine ((HXf _).out).mono ?_; rintro e x60 ⟨rfl, k61⟩)
            have q62 : Old wp x60 := q58.trans (k61 _)
            have bb63 := Blk.keeps bb59 (k61 (fun _ => False)) (fun z => z)
            refine hK.out _ _ ⟨(F1_wp x60 q62).1, (F2_wp x60 q62).2⟩ (fun hHeld => ?_)
            clear hK K
            try simp only [Act.put, Array.getInternal_eq_getElem, List.getElem_toArray, List.getElem_cons_zero, List.getElem_cons_succ, List.setIfInBounds_toArray, List.set_cons_zero, List.set_cons_succ]
            refine wpAnyH_take (i := 7) (v := ?_) rfl (by kernel_rfl) (by kernel_rfl) (by kernel_rfl) (fun _ _ _ h => h) (Or.inl ⟨by kernel_rfl, ?_⟩) (by assumption) ?_
            rotate_left
            · (intro w hSw; (try dsimp only at hSw); go_simp) <;> (try (with_reducible rfl))
            try simp only [Act.put, Array.getInternal_eq_getElem, List.getElem_toArray, List.getElem_cons_zero, List.getElem_cons_succ, List.setIfInBounds_toArray, List.set_cons_zero, List.set_cons_succ]
            refine wpAnyH_take (i := 8) (v := ?_) rfl (by kernel_rfl) (by kernel_rfl) (by kernel_rfl) (fun _ _ _ h => h) (Or.inl ⟨by kernel_rfl, ?_⟩) (by assumption) ?_
            rotate_left
            · (intro w hSw; (try dsimp only at hSw); go_simp) <;> (try (with_reducible rfl))
            try simp only [Act.put, Array.getInternal_eq_getElem, List.getElem_toArray, List.getElem_cons_zero, List.getElem_cons_succ, List.setIfInBounds_toArray, List.set_cons_zero, List.set_cons_succ]
            refine wpAnyH_take (i := 9) (v := ?_) rfl (by kernel_rfl) (by kernel_rfl) (by kernel_rfl) (fun _ _ _ h => h) (Or.inl ⟨by kernel_rfl, ?_⟩) (by assumption) ?_
            rotate_left
            · (intro w hSw; (try dsimp only at hSw); go_simp) <;> (try (with_reducible rfl))
            try simp only [Act.put, Array.getInternal_eq_getElem, List.getElem_toArray, List.getElem_cons_zero, List.getElem_cons_succ, List.setIfInBounds_toArray, List.set_cons_zero, List.set_cons_succ]
            obtain ⟨t1, t2, t3, t5, t6⟩ := over_px (c := q) hqw bb63 rfl
            obtain ⟨x65, hs64⟩ : ∃ y, y = x60.setCells xd.heap.size 0 (pxc q) := ⟨_, rfl⟩
            rw [← hs64] at t5 t6
            have x65q : Old wp x65 := old_over q62 lt51 t6
            have x65b := t5
            rw [HCQ.out] at t1 t2 t3 hs64 x65b
            refine wpAnyH_ready (rs := [11]) (by kernel_rfl) (by simp) ?_
            refine AllReadyH.cons rfl (fun K hK => ?_) AllReadyH.nil
            (rw [if_pos (by kernel_rfl)]; simp only [Array.getInternal_eq_getElem, List.getElem_toArray, List.getElem_cons_zero, List.getElem_cons_succ]; refine wp_store_mid 28 _ _ rfl xd.heap.size 0 CQ.toArray rfl rfl t1 t2 t3 ?_; simp only [List.toList_toArray, Act.put]; rw [← hs64])
            refine hK.out _ _ ⟨(F1_wp x65 x65q).1, (F2_wp x65 x65q).2⟩ (fun hHeld => ?_)
            clear hK K
            try simp only [Act.put, Array.getInternal_eq_getElem, List.getElem_toArray, List.getElem_cons_zero, List.getElem_cons_succ, List.setIfInBounds_toArray, List.set_cons_zero, List.set_cons_succ]
            refine wpAnyH_take (i := 12) (v := ?_) rfl (by kernel_rfl) (by kernel_rfl) (by kernel_rfl) (fun _ _ _ h => h) (Or.inl ⟨by kernel_rfl, ?_⟩) (by assumption) ?_
            rotate_left
            · (intro w hSw; (try dsimp only at hSw); go_simp) <;> (try (with_reducible rfl))
            try simp only [Act.put, Array.getInternal_eq_getElem, List.getElem_toArray, List.getElem_cons_zero, List.getElem_cons_succ, List.setIfInBounds_toArray, List.set_cons_zero, List.set_cons_succ]
            refine wpAnyH_done ?_ ?_ _
            · kernel_rfl
            clear hHeld
            go_wp2_with fail
            go_meet
            exact ⟨_, rfl, rfl, x65q, x65b⟩





  case rest =>
  obtain ⟨B9, rfl, rfl, kwq00, bwq00⟩ := hcut
  obtain ⟨wq0, hwc⟩ : ∃ v, v = wc := ⟨_, rfl⟩
  rw [← hwc] at kwq00 bwq00 ⊢
  clear hwc
  have Kwq0 : Hid (∀ S, Keeps S w wq0) := Lib.hid (fun S => (Kwp.out S).trans (kwq00.all S))
  rw [← HCQ.out] at bwq00
  have HEV := fun (wq : World) (hC : Old wq0 wq) => HEV0.out.keeps (fun S => (Kwq0.out S).trans (hC.all S))
  have F0_wq0 := fun (wq : World) (hC : Old wq0 wq) => F0_wp wq (kwq00.trans hC)
  have F1_wq0 := fun (wq : World) (hC : Old wq0 wq) => F1_wp wq (kwq00.trans hC)
  have F3_wq0 := fun (wq : World) (hC : Old wq0 wq) => F3 wq (kwq00.trans hC)
  have F2_wq0 := fun (wq : World) (hC : Old wq0 wq) => F2_wp wq (kwq00.trans hC)
  have F4 := px_facts hqw bwq00
  have Z4 := Lib.hid (px_sz hqw)
  have ZA4 := Lib.hid (ad_sz hqw)
  rw [HCQ.out] at F4 Z4
  rw [HAQ.out] at F4 ZA4
  clear kwq00 bwq00
  have PB := fun (wq : World) (hC : Old wq0 wq) => (F3_wq0 wq hC).2.2.2.1
  clear HWi HOf HXd HXi HXf
  go_wp2_with ((with_reducible show wpList _ _ _ (⟨some 46, _, _, _, _, _⟩ :: _) _ _); refine x_list (Old.refl wq0) ?_)
  --@0
  refine x_load (by kernel_rfl) 28 _ rfl B7 0 rfl CP _ (fun wq hC => (F3_wq0 wq hC).1) Tryz.underlying28 rfl Z3.out ?_
  try simp only [Act.put, Array.getInternal_eq_getElem, List.getElem_toArray, List.getElem_cons_zero, List.getElem_cons_succ, List.setIfInBounds_toArray, List.set_cons_zero, List.set_cons_succ]
  --@1
  refine x_load (by kernel_rfl) 24 _ rfl w.heap.size 0 rfl CA _ (fun wq hC => (F0_wq0 wq hC).1) Tryz.underlying24 rfl Z0.out ?_
  try simp only [Act.put, Array.getInternal_eq_getElem, List.getElem_toArray, List.getElem_cons_zero, List.getElem_cons_succ, List.setIfInBounds_toArray, List.set_cons_zero, List.set_cons_succ]
  --@2
  refine x_call (by kernel_rfl) (fun wq hC => old_call hC (H1 wq).out) (fun wq => ?_) ?_
  · go_simp <;> (try (with_reducible rfl))
  try simp only [Act.put, Array.getInternal_eq_getElem, List.getElem_toArray, List.getElem_cons_zero, List.getElem_cons_succ, List.setIfInBounds_toArray, List.set_cons_zero, List.set_cons_succ]
  --@3
  refine x_any (by kernel_rfl) ?_ (fun wq hC => ?_) ?_
  rotate_left
  · (go_simp) <;> (try (with_reducible rfl))
  try simp only [Act.put, Array.getInternal_eq_getElem, List.getElem_toArray, List.getElem_cons_zero, List.getElem_cons_succ, List.setIfInBounds_toArray, List.set_cons_zero, List.set_cons_succ]
  --@4
  refine x_any (by kernel_rfl) ?_ (fun wq hC => ?_) ?_
  rotate_left
  · (go_simp) <;> (try (with_reducible rfl))
  try simp only [Act.put, Array.getInternal_eq_getElem, List.getElem_toArray, List.getElem_cons_zero, List.getElem_cons_succ, List.setIfInBounds_toArray, List.set_cons_zero, List.set_cons_succ]
  --@5
  refine x_any (by kernel_rfl) ?_ (fun wq hC => ?_) ?_
  rotate_left
  · (go_simp) <;> (try (with_reducible rfl))
  try simp only [Act.put, Array.getInternal_eq_getElem, List.getElem_toArray, List.getElem_cons_zero, List.getElem_cons_succ, List.setIfInBounds_toArray, List.set_cons_zero, List.set_cons_succ]
  --@6
  refine x_load (by kernel_rfl) 28 _ rfl B9 0 rfl CQ _ (fun wq hC => (F4 wq hC).1) Tryz.underlying28 rfl Z4.out ?_
  try simp only [Act.put, Array.getInternal_eq_getElem, List.getElem_toArray, List.getElem_cons_zero, List.getElem_cons_succ, List.setIfInBounds_toArray, List.set_cons_zero, List.set_cons_succ]
  --@7
  refine x_load (by kernel_rfl) 24 _ rfl (w.heap.size + 1) 0 rfl CB _ (fun wq hC => (F1_wq0 wq hC).1) Tryz.underlying24 rfl Z1.out ?_
  try simp only [Act.put, Array.getInternal_eq_getElem, List.getElem_toArray, List.getElem_cons_zero, List.getElem_cons_succ, List.setIfInBounds_toArray, List.set_cons_zero, List.set_cons_succ]
  --@8
  refine x_call (by kernel_rfl) (fun wq hC => old_call hC (H2 wq).out) (fun wq => ?_) ?_
  · go_simp <;> (try (with_reducible rfl))
  try simp only [Act.put, Array.getInternal_eq_getElem, List.getElem_toArray, List.getElem_cons_zero, List.getElem_cons_succ, List.setIfInBounds_toArray, List.set_cons_zero, List.set_cons_succ]
  --@9
  refine x_any (by kernel_rfl) ?_ (fun wq hC => ?_) ?_
  rotate_left
  · (go_simp) <;> (try (with_reducible rfl))
  try simp only [Act.put, Array.getInternal_eq_getElem, List.getElem_toArray, List.getElem_cons_zero, List.getElem_cons_succ, List.setIfInBounds_toArray, List.set_cons_zero, List.set_cons_succ]
  --@10
  refine x_any (by kernel_rfl) ?_ (fun wq hC => ?_) ?_
  rotate_left
  · (go_simp) <;> (try (with_reducible rfl))
  try simp only [Act.put, Array.getInternal_eq_getElem, List.getElem_toArray, List.getElem_cons_zero, List.getElem_cons_succ, List.setIfInBounds_toArray, List.set_cons_zero, List.set_cons_succ]
  --@11
  refine x_any (by kernel_rfl) ?_ (fun wq hC => ?_) ?_
  rotate_left
  · (go_simp) <;> (try (with_reducible rfl))
  try simp only [Act.put, Array.getInternal_eq_getElem, List.getElem_toArray, List.getElem_cons_zero, List.getElem_cons_succ, List.setIfInBounds_toArray, List.set_cons_zero, List.set_cons_succ]
  --@12
  refine x_load (by kernel_rfl) 28 _ rfl B7 0 rfl CP _ (fun wq hC => (F3_wq0 wq hC).1) Tryz.underlying28 rfl Z3.out ?_
  try simp only [Act.put, Array.getInternal_eq_getElem, List.getElem_toArray, List.getElem_cons_zero, List.getElem_cons_succ, List.setIfInBounds_toArray, List.set_cons_zero, List.set_cons_succ]
  --@13
  refine x_load (by kernel_rfl) 28 _ rfl B7 0 rfl CP _ (fun wq hC => (F3_wq0 wq hC).1) Tryz.underlying28 rfl Z3.out ?_
  try simp only [Act.put, Array.getInternal_eq_getElem, List.getElem_toArray, List.getElem_cons_zero, List.getElem_cons_succ, List.setIfInBounds_toArray, List.set_cons_zero, List.set_cons_succ]
  --@14
  refine x_call (by kernel_rfl) (fun wq hC => old_call hC (H3 wq).out) (fun wq => ?_) ?_
  · go_simp <;> (try (with_reducible rfl))
  try simp only [Act.put, Array.getInternal_eq_getElem, List.getElem_toArray, List.getElem_cons_zero, List.getElem_cons_succ, List.setIfInBounds_toArray, List.set_cons_zero, List.set_cons_succ]
  --@15
  refine x_any (by kernel_rfl) ?_ (fun wq hC => ?_) ?_
  rotate_left
  · (go_simp) <;> (try (with_reducible rfl))
  try simp only [Act.put, Array.getInternal_eq_getElem, List.getElem_toArray, List.getElem_cons_zero, List.getElem_cons_succ, List.setIfInBounds_toArray, List.set_cons_zero, List.set_cons_succ]
  --@16
  refine x_any (by kernel_rfl) ?_ (fun wq hC => ?_) ?_
  rotate_left
  · (go_simp) <;> (try (with_reducible rfl))
  try simp only [Act.put, Array.getInternal_eq_getElem, List.getElem_toArray, List.getElem_cons_zero, List.getElem_cons_succ, List.setIfInBounds_toArray, List.set_cons_zero, List.set_cons_succ]
  refine x_nil ?_
  intro wa kwa
  go_wp2_with fail
  refine q_region (by kernel_rfl) (by kernel_rfl) kwa ?_
  --@0
  refine q_load (by kernel_rfl) 28 _ rfl B7 0 rfl CP _ (fun wq hC => (F3_wq0 wq hC).1) Tryz.underlying28 rfl Z3.out ?_
  try simp only [Act.put, Array.getInternal_eq_getElem, List.getElem_toArray, List.getElem_cons_zero, List.getElem_cons_succ, List.setIfInBounds_toArray, List.set_cons_zero, List.set_cons_succ]
  --@1
  refine q_load (by kernel_rfl) 28 _ rfl B9 0 rfl CQ _ (fun wq hC => (F4 wq hC).1) Tryz.underlying28 rfl Z4.out ?_
  try simp only [Act.put, Array.getInternal_eq_getElem, List.getElem_toArray, List.getElem_cons_zero, List.getElem_cons_succ, List.setIfInBounds_toArray, List.set_cons_zero, List.set_cons_succ]
  --@2
  refine q_call (by kernel_rfl) (fun wq hC => old_call hC (H4 wq).out) (fun wq => ?_) ?_
  · go_simp <;> (try (with_reducible rfl))
  try simp only [Act.put, Array.getInternal_eq_getElem, List.getElem_toArray, List.getElem_cons_zero, List.getElem_cons_succ, List.setIfInBounds_toArray, List.set_cons_zero, List.set_cons_succ]
  --@3
  refine q_load (by kernel_rfl) 28 _ rfl B9 0 rfl CQ _ (fun wq hC => (F4 wq hC).1) Tryz.underlying28 rfl Z4.out ?_
  try simp only [Act.put, Array.getInternal_eq_getElem, List.getElem_toArray, List.getElem_cons_zero, List.getElem_cons_succ, List.setIfInBounds_toArray, List.set_cons_zero, List.set_cons_succ]
  --@4
  refine q_load (by kernel_rfl) 28 _ rfl B7 0 rfl CP _ (fun wq hC => (F3_wq0 wq hC).1) Tryz.underlying28 rfl Z3.out ?_
  try simp only [Act.put, Array.getInternal_eq_getElem, List.getElem_toArray, List.getElem_cons_zero, List.getElem_cons_succ, List.setIfInBounds_toArray, List.set_cons_zero, List.set_cons_succ]
  --@5
  refine q_call (by kernel_rfl) (fun wq hC => old_call hC (H5 wq).out) (fun wq => ?_) ?_
  · go_simp <;> (try (with_reducible rfl))
  try simp only [Act.put, Array.getInternal_eq_getElem, List.getElem_toArray, List.getElem_cons_zero, List.getElem_cons_succ, List.setIfInBounds_toArray, List.set_cons_zero, List.set_cons_succ]
  --@6
  refine q_any (by kernel_rfl) ?_ (fun wq hC => ?_) ?_
  rotate_left
  · (go_simp) <;> (try (with_reducible rfl))
  try simp only [Act.put, Array.getInternal_eq_getElem, List.getElem_toArray, List.getElem_cons_zero, List.getElem_cons_succ, List.setIfInBounds_toArray, List.set_cons_zero, List.set_cons_succ]
  --@7
  refine q_any (by kernel_rfl) ?_ (fun wq hC => ?_) ?_
  rotate_left
  · (go_simp) <;> (try (with_reducible rfl))
  try simp only [Act.put, Array.getInternal_eq_getElem, List.getElem_toArray, List.getElem_cons_zero, List.getElem_cons_succ, List.setIfInBounds_toArray, List.set_cons_zero, List.set_cons_succ]
  refine q_nil ?_
  intro wb kwb
  go_upto_region 8 with fail
  try simp only [Act.put]
  go_cut [91] (fun sv wx => sv = .bool false ∧ Old wq0 wx)
  case first => as_aux_lemma =>
    cases pq0 with
    | true =>
      have h4 := HPQ.out.symm
      rw [has_true (covers_has ((coversB_iff p q).1 h4) HM.out.2.2.2)] at H6
      rw [t_eq hpw hqw h4, ← HQP.out] at HEQ
      have HQE : (qp0 != qp0) = false := by simp
      clear h4 HPQ HQP
      go_wp2_with ((with_reducible show wpList _ _ _ (⟨some 73, _, _, _, _, _⟩ :: _) _ _); refine x_list kwb ?_)
      --@0
      refine x_load (by kernel_rfl) 28 _ rfl B7 0 rfl CP _ (fun wq hC => (F3_wq0 wq hC).1) Tryz.underlying28 rfl Z3.out ?_
      try simp only [Act.put, Array.getInternal_eq_getElem, List.getElem_toArray, List.getElem_cons_zero, List.getElem_cons_succ, List.setIfInBounds_toArray, List.set_cons_zero, List.set_cons_succ]
      --@1
      refine x_load (by kernel_rfl) 28 _ rfl B9 0 rfl CQ _ (fun wq hC => (F4 wq hC).1) Tryz.underlying28 rfl Z4.out ?_
      try simp only [Act.put, Array.getInternal_eq_getElem, List.getElem_toArray, List.getElem_cons_zero, List.getElem_cons_succ, List.setIfInBounds_toArray, List.set_cons_zero, List.set_cons_succ]
      --@2
      refine x_any (by kernel_rfl) ?_ (fun wq hC => ?_) ?_
      rotate_left
      · (have hN := HEQ; go_simp) <;> (try (with_reducible rfl))
      try simp only [Act.put, Array.getInternal_eq_getElem, List.getElem_toArray, List.getElem_cons_zero, List.getElem_cons_succ, List.setIfInBounds_toArray, List.set_cons_zero, List.set_cons_succ]
      --@3
      refine x_any (by kernel_rfl) ?_ (fun wq hC => ?_) ?_
      rotate_left
      · (have hN := HQE; go_simp) <;> (try (with_reducible rfl))
      try simp only [Act.put, Array.getInternal_eq_getElem, List.getElem_toArray, List.getElem_cons_zero, List.getElem_cons_succ, List.setIfInBounds_toArray, List.set_cons_zero, List.set_cons_succ]
      --@4
      refine x_any (by kernel_rfl) ?_ (fun wq hC => ?_) ?_
      rotate_left
      · (go_simp) <;> (try (with_reducible rfl))
      try simp only [Act.put, Array.getInternal_eq_getElem, List.getElem_toArray, List.getElem_cons_zero, List.getElem_cons_succ, List.setIfInBounds_toArray, List.set_cons_zero, List.set_cons_succ]
      --@5
      refine x_load (by kernel_rfl) 28 _ rfl B7 0 rfl CP _ (fun wq hC => (F3_wq0 wq hC).1) Tryz.underlying28 rfl Z3.out ?_
      try simp only [Act.put, Array.getInternal_eq_getElem, List.getElem_toArray, List.getElem_cons_zero, List.getElem_cons_succ, List.setIfInBounds_toArray, List.set_cons_zero, List.set_cons_succ]
      --@6
      refine x_load (by kernel_rfl) 24 _ rfl (w.heap.size + 1) 0 rfl CB _ (fun wq hC => (F1_wq0 wq hC).1) Tryz.underlying24 rfl Z1.out ?_
      try simp only [Act.put, Array.getInternal_eq_getElem, List.getElem_toArray, List.getElem_cons_zero, List.getElem_cons_succ, List.setIfInBounds_toArray, List.set_cons_zero, List.set_cons_succ]
      --@7
      refine x_call (by kernel_rfl) (fun wq hC => old_call hC (H6 wq).out) (fun wq => ?_) ?_
      · go_simp <;> (try (with_reducible rfl))
      try simp only [Act.put, Array.getInternal_eq_getElem, List.getElem_toArray, List.getElem_cons_zero, List.getElem_cons_succ, List.setIfInBounds_toArray, List.set_cons_zero, List.set_cons_succ]
      --@8
      refine x_any (by kernel_rfl) ?_ (fun wq hC => ?_) ?_
      rotate_left
      · (go_simp) <;> (try (with_reducible rfl))
      try simp only [Act.put, Array.getInternal_eq_getElem, List.getElem_toArray, List.getElem_cons_zero, List.getElem_cons_succ, List.setIfInBounds_toArray, List.set_cons_zero, List.set_cons_succ]
      --@9
      refine x_any (by kernel_rfl) ?_ (fun wq hC => ?_) ?_
      rotate_left
      · (go_simp) <;> (try (with_reducible rfl))
      try simp only [Act.put, Array.getInternal_eq_getElem, List.getElem_toArray, List.getElem_cons_zero, List.getElem_cons_succ, List.setIfInBounds_toArray, List.set_cons_zero, List.set_cons_succ]
      --@10
      refine x_skip (by kernel_rfl) ?_
      try simp only [Act.put, Array.getInternal_eq_getElem, List.getElem_toArray, List.getElem_cons_zero, List.getElem_cons_succ, List.setIfInBounds_toArray, List.set_cons_zero, List.set_cons_succ]
      --@11
      refine x_skip (by kernel_rfl) ?_
      try simp only [Act.put, Array.getInternal_eq_getElem, List.getElem_toArray, List.getElem_cons_zero, List.getElem_cons_succ, List.setIfInBounds_toArray, List.set_cons_zero, List.set_cons_succ]
      --@12
      refine x_skip (by kernel_rfl) ?_
      try simp only [Act.put, Array.getInternal_eq_getElem, List.getElem_toArray, List.getElem_cons_zero, List.getElem_cons_succ, List.setIfInBounds_toArray, List.set_cons_zero, List.set_cons_succ]
      --@13
      refine x_skip (by kernel_rfl) ?_
      try simp only [Act.put, Array.getInternal_eq_getElem, List.getElem_toArray, List.getElem_cons_zero, List.getElem_cons_succ, List.setIfInBounds_toArray, List.set_cons_zero, List.set_cons_succ]
      --@14
      refine x_skip (by kernel_rfl) ?_
      try simp only [Act.put, Array.getInternal_eq_getElem, List.getElem_toArray, List.getElem_cons_zero, List.getElem_cons_succ, List.setIfInBounds_toArray, List.set_cons_zero, List.set_cons_succ]
      --@15
      refine x_skip (by kernel_rfl) ?_
      try simp only [Act.put, Array.getInternal_eq_getElem, List.getElem_toArray, List.getElem_cons_zero, List.getElem_cons_succ, List.setIfInBounds_toArray, List.set_cons_zero, List.set_cons_succ]
      --@16
      refine x_any (by kernel_rfl) ?_ (fun wq hC => ?_) ?_
      rotate_left
      · (go_simp) <;> (try (with_reducible rfl))
      try simp only [Act.put, Array.getInternal_eq_getElem, List.getElem_toArray, List.getElem_cons_zero, List.getElem_cons_succ, List.setIfInBounds_toArray, List.set_cons_zero, List.set_cons_succ]
      --@17
      refine x_any (by kernel_rfl) ?_ (fun wq hC => ?_) ?_
      rotate_left
      · (go_simp) <;> (try (with_reducible rfl))
      try simp only [Act.put, Array.getInternal_eq_getElem, List.getElem_toArray, List.getElem_cons_zero, List.getElem_cons_succ, List.setIfInBounds_toArray, List.set_cons_zero, List.set_cons_succ]
      --@18
      refine x_any (by kernel_rfl) ?_ (fun wq hC => ?_) ?_
      rotate_left
      · (go_simp) <;> (try (with_reducible rfl))
      try simp only [Act.put, Array.getInternal_eq_getElem, List.getElem_toArray, List.getElem_cons_zero, List.getElem_cons_succ, List.setIfInBounds_toArray, List.set_cons_zero, List.set_cons_succ]
      refine x_nil ?_
      intro wv kwv
      go_wp2_with fail
      go_meet
      exact ⟨rfl, kwv⟩
    | false =>
      have h4 := HPQ.out.symm
      rw [t_ne h4 HM.out.1] at HEQ
      cases qp0 with
      | true =>
        have HHH : (hasB p b != hasB p b) = false := by simp
        generalize hasB p b = u at *
        clear h4 HPQ HQP
        go_wp2_with ((with_reducible show wpList _ _ _ (⟨some 73, _, _, _, _, _⟩ :: _) _ _); refine x_list kwb ?_)
        --@0
        refine x_load (by kernel_rfl) 28 _ rfl B7 0 rfl CP _ (fun wq hC => (F3_wq0 wq hC).1) Tryz.underlying28 rfl Z3.out ?_
        try simp only [Act.put, Array.getInternal_eq_getElem, List.getElem_toArray, List.getElem_cons_zero, List.getElem_cons_succ, List.setIfInBounds_toArray, List.set_cons_zero, List.set_cons_succ]
        --@1
        refine x_load (by kernel_rfl) 28 _ rfl B9 0 rfl CQ _ (fun wq hC => (F4 wq hC).1) Tryz.underlying28 rfl Z4.out ?_
        try simp only [Act.put, Array.getInternal_eq_getElem, List.getElem_toArray, List.getElem_cons_zero, List.getElem_cons_succ, List.setIfInBounds_toArray, List.set_cons_zero, List.set_cons_succ]
        --@2
        refine x_any (by kernel_rfl) ?_ (fun wq hC => ?_) ?_
        rotate_left
        · (have hN := HEQ; go_simp) <;> (try (with_reducible rfl))
        try simp only [Act.put, Array.getInternal_eq_getElem, List.getElem_toArray, List.getElem_cons_zero, List.getElem_cons_succ, List.setIfInBounds_toArray, List.set_cons_zero, List.set_cons_succ]
        --@3
        refine x_any (by kernel_rfl) ?_ (fun wq hC => ?_) ?_
        rotate_left
        · (go_simp) <;> (try (with_reducible rfl))
        try simp only [Act.put, Array.getInternal_eq_getElem, List.getElem_toArray, List.getElem_cons_zero, List.getElem_cons_succ, List.setIfInBounds_toArray, List.set_cons_zero, List.set_cons_succ]
        --@4
        refine x_any (by kernel_rfl) ?_ (fun wq hC => ?_) ?_
        rotate_left
        · (go_simp) <;> (try (with_reducible rfl))
        try simp only [Act.put, Array.getInternal_eq_getElem, List.getElem_toArray, List.getElem_cons_zero, List.getElem_cons_succ, List.setIfInBounds_toArray, List.set_cons_zero, List.set_cons_succ]
        --@5
        refine x_load (by kernel_rfl) 28 _ rfl B7 0 rfl CP _ (fun wq hC => (F3_wq0 wq hC).1) Tryz.underlying28 rfl Z3.out ?_
        try simp only [Act.put, Array.getInternal_eq_getElem, List.getElem_toArray, List.getElem_cons_zero, List.getElem_cons_succ, List.setIfInBounds_toArray, List.set_cons_zero, List.set_cons_succ]
        --@6
        refine x_load (by kernel_rfl) 24 _ rfl (w.heap.size + 1) 0 rfl CB _ (fun wq hC => (F1_wq0 wq hC).1) Tryz.underlying24 rfl Z1.out ?_
        try simp only [Act.put, Array.getInternal_eq_getElem, List.getElem_toArray, List.getElem_cons_zero, List.getElem_cons_succ, List.setIfInBounds_toArray, List.set_cons_zero, List.set_cons_succ]
        --@7
        refine x_call (by kernel_rfl) (fun wq hC => old_call hC (H6 wq).out) (fun wq => ?_) ?_
        · go_simp <;> (try (with_reducible rfl))
        try simp only [Act.put, Array.getInternal_eq_getElem, List.getElem_toArray, List.getElem_cons_zero, List.getElem_cons_succ, List.setIfInBounds_toArray, List.set_cons_zero, List.set_cons_succ]
        --@8
        refine x_any (by kernel_rfl) ?_ (fun wq hC => ?_) ?_
        rotate_left
        · (go_simp) <;> (try (with_reducible rfl))
        try simp only [Act.put, Array.getInternal_eq_getElem, List.getElem_toArray, List.getElem_cons_zero, List.getElem_cons_succ, List.setIfInBounds_toArray, List.set_cons_zero, List.set_cons_succ]
        --@9
        refine x_any (by kernel_rfl) ?_ (fun wq hC => ?_) ?_
        rotate_left
        · (go_simp) <;> (try (with_reducible rfl))
        try simp only [Act.put, Array.getInternal_eq_getElem, List.getElem_toArray, List.getElem_cons_zero, List.getElem_cons_succ, List.setIfInBounds_toArray, List.set_cons_zero, List.set_cons_succ]
        --@10
        refine x_any (by kernel_rfl) ?_ (fun wq hC => ?_) ?_
        rotate_left
        · (go_simp) <;> (try (with_reducible rfl))
        try simp only [Act.put, Array.getInternal_eq_getElem, List.getElem_toArray, List.getElem_cons_zero, List.getElem_cons_succ, List.setIfInBounds_toArray, List.set_cons_zero, List.set_cons_succ]
        --@11
        refine x_any (by kernel_rfl) ?_ (fun wq hC => ?_) ?_
        rotate_left
        · (go_simp) <;> (try (with_reducible rfl))
        try simp only [Act.put, Array.getInternal_eq_getElem, List.getElem_toArray, List.getElem_cons_zero, List.getElem_cons_succ, List.setIfInBounds_toArray, List.set_cons_zero, List.set_cons_succ]
        --@12
        refine x_load (by kernel_rfl) 28 _ rfl B7 0 rfl CP _ (fun wq hC => (F3_wq0 wq hC).1) Tryz.underlying28 rfl Z3.out ?_
        try simp only [Act.put, Array.getInternal_eq_getElem, List.getElem_toArray, List.getElem_cons_zero, List.getElem_cons_succ, List.setIfInBounds_toArray, List.set_cons_zero, List.set_cons_succ]
        --@13
        refine x_load (by kernel_rfl) 24 _ rfl (w.heap.size + 1) 0 rfl CB _ (fun wq hC => (F1_wq0 wq hC).1) Tryz.underlying24 rfl Z1.out ?_
        try simp only [Act.put, Array.getInternal_eq_getElem, List.getElem_toArray, List.getElem_cons_zero, List.getElem_cons_succ, List.setIfInBounds_toArray, List.set_cons_zero, List.set_cons_succ]
        --@14
        refine x_call (by kernel_rfl) (fun wq hC => old_call hC (H6 wq).out) (fun wq => ?_) ?_
        · go_simp <;> (try (with_reducible rfl))
        try simp only [Act.put, Array.getInternal_eq_getElem, List.getElem_toArray, List.getElem_cons_zero, List.getElem_cons_succ, List.setIfInBounds_toArray, List.set_cons_zero, List.set_cons_succ]
        --@15
        refine x_any (by kernel_rfl) ?_ (fun wq hC => ?_) ?_
        rotate_left
        · (go_simp) <;> (try (with_reducible rfl))
        try simp only [Act.put, Array.getInternal_eq_getElem, List.getElem_toArray, List.getElem_cons_zero, List.getElem_cons_succ, List.setIfInBounds_toArray, List.set_cons_zero, List.set_cons_succ]
        --@16
        refine x_any (by kernel_rfl) ?_ (fun wq hC => ?_) ?_
        rotate_left
        · (go_simp) <;> (try (with_reducible rfl))
        try simp only [Act.put, Array.getInternal_eq_getElem, List.getElem_toArray, List.getElem_cons_zero, List.getElem_cons_succ, List.setIfInBounds_toArray, List.set_cons_zero, List.set_cons_succ]
        --@17
        refine x_any (by kernel_rfl) ?_ (fun wq hC => ?_) ?_
        rotate_left
        · (have hN := HHH; go_simp) <;> (try (with_reducible rfl))
        try simp only [Act.put, Array.getInternal_eq_getElem, List.getElem_toArray, List.getElem_cons_zero, List.getElem_cons_succ, List.setIfInBounds_toArray, List.set_cons_zero, List.set_cons_succ]
        --@18
        refine x_any (by kernel_rfl) ?_ (fun wq hC => ?_) ?_
        rotate_left
        · (go_simp) <;> (try (with_reducible rfl))
        try simp only [Act.put, Array.getInternal_eq_getElem, List.getElem_toArray, List.getElem_cons_zero, List.getElem_cons_succ, List.setIfInBounds_toArray, List.set_cons_zero, List.set_cons_succ]
        refine x_nil ?_
        intro wv kwv
        go_wp2_with fail
        go_meet
        exact ⟨rfl, kwv⟩
      | false =>
        have h5 := HQP.out.symm
        rw [t_none h4 h5 HM.out.2.2.2] at H6
        clear h4 h5 HPQ HQP
        go_wp2_with ((with_reducible show wpList _ _ _ (⟨some 73, _, _, _, _, _⟩ :: _) _ _); refine x_list kwb ?_)
        --@0
        refine x_load (by kernel_rfl) 28 _ rfl B7 0 rfl CP _ (fun wq hC => (F3_wq0 wq hC).1) Tryz.underlying28 rfl Z3.out ?_
        try simp only [Act.put, Array.getInternal_eq_getElem, List.getElem_toArray, List.getElem_cons_zero, List.getElem_cons_succ, List.setIfInBounds_toArray, List.set_cons_zero, List.set_cons_succ]
        --@1
        refine x_load (by kernel_rfl) 28 _ rfl B9 0 rfl CQ _ (fun wq hC => (F4 wq hC).1) Tryz.underlying28 rfl Z4.out ?_
        try simp only [Act.put, Array.getInternal_eq_getElem, List.getElem_toArray, List.getElem_cons_zero, List.getElem_cons_succ, List.setIfInBounds_toArray, List.set_cons_zero, List.set_cons_succ]
        --@2
        refine x_any (by kernel_rfl) ?_ (fun wq hC => ?_) ?_
        rotate_left
        · (have hN := HEQ; go_simp) <;> (try (with_reducible rfl))
        try simp only [Act.put, Array.getInternal_eq_getElem, List.getElem_toArray, List.getElem_cons_zero, List.getElem_cons_succ, List.setIfInBounds_toArray, List.set_cons_zero, List.set_cons_succ]
        --@3
        refine x_any (by kernel_rfl) ?_ (fun wq hC => ?_) ?_
        rotate_left
        · (go_simp) <;> (try (with_reducible rfl))
        try simp only [Act.put, Array.getInternal_eq_getElem, List.getElem_toArray, List.getElem_cons_zero, List.getElem_cons_succ, List.setIfInBounds_toArray, List.set_cons_zero, List.set_cons_succ]
        --@4
        refine x_any (by kernel_rfl) ?_ (fun wq hC => ?_) ?_
        rotate_left
        · (go_simp) <;> (try (with_reducible rfl))
        try simp only [Act.put, Array.getInternal_eq_getElem, List.getElem_toArray, List.getElem_cons_zero, List.getElem_cons_succ, List.setIfInBounds_toArray, List.set_cons_zero, List.set_cons_succ]
        --@5
        refine x_load (by kernel_rfl) 28 _ rfl B7 0 rfl CP _ (fun wq hC => (F3_wq0 wq hC).1) Tryz.underlying28 rfl Z3.out ?_
        try simp only [Act.put, Array.getInternal_eq_getElem, List.getElem_toArray, List.getElem_cons_zero, List.getElem_cons_succ, List.setIfInBounds_toArray, List.set_cons_zero, List.set_cons_succ]
        --@6
        refine x_load (by kernel_rfl) 24 _ rfl (w.heap.size + 1) 0 rfl CB _ (fun wq hC => (F1_wq0 wq hC).1) Tryz.underlying24 rfl Z1.out ?_
        try simp only [Act.put, Array.getInternal_eq_getElem, List.getElem_toArray, List.getElem_cons_zero, List.getElem_cons_succ, List.setIfInBounds_toArray, List.set_cons_zero, List.set_cons_succ]
        --@7
        refine x_call (by kernel_rfl) (fun wq hC => old_call hC (H6 wq).out) (fun wq => ?_) ?_
        · go_simp <;> (try (with_reducible rfl))
        try simp only [Act.put, Array.getInternal_eq_getElem, List.getElem_toArray, List.getElem_cons_zero, List.getElem_cons_succ, List.setIfInBounds_toArray, List.set_cons_zero, List.set_cons_succ]
        --@8
        refine x_any (by kernel_rfl) ?_ (fun wq hC => ?_) ?_
        rotate_left
        · (go_simp) <;> (try (with_reducible rfl))
        try simp only [Act.put, Array.getInternal_eq_getElem, List.getElem_toArray, List.getElem_cons_zero, List.getElem_cons_succ, List.setIfInBounds_toArray, List.set_cons_zero, List.set_cons_succ]
        --@9
        refine x_any (by kernel_rfl) ?_ (fun wq hC => ?_) ?_
        rotate_left
        · (go_simp) <;> (try (with_reducible rfl))
        try simp only [Act.put, Array.getInternal_eq_getElem, List.getElem_toArray, List.getElem_cons_zero, List.getElem_cons_succ, List.setIfInBounds_toArray, List.set_cons_zero, List.set_cons_succ]
        --@10
        refine x_any (by kernel_rfl) ?_ (fun wq hC => ?_) ?_
        rotate_left
        · (go_simp) <;> (try (with_reducible rfl))
        try simp only [Act.put, Array.getInternal_eq_getElem, List.getElem_toArray, List.getElem_cons_zero, List.getElem_cons_succ, List.setIfInBounds_toArray, List.set_cons_zero, List.set_cons_succ]
        --@11
        refine x_any (by kernel_rfl) ?_ (fun wq hC => ?_) ?_
        rotate_left
        · (go_simp) <;> (try (with_reducible rfl))
        try simp only [Act.put, Array.getInternal_eq_getElem, List.getElem_toArray, List.getElem_cons_zero, List.getElem_cons_succ, List.setIfInBounds_toArray, List.set_cons_zero, List.set_cons_succ]
        --@12
        refine x_skip (by kernel_rfl) ?_
        try simp only [Act.put, Array.getInternal_eq_getElem, List.getElem_toArray, List.getElem_cons_zero, List.getElem_cons_succ, List.setIfInBounds_toArray, List.set_cons_zero, List.set_cons_succ]
        --@13
        refine x_skip (by kernel_rfl) ?_
        try simp only [Act.put, Array.getInternal_eq_getElem, List.getElem_toArray, List.getElem_cons_zero, List.getElem_cons_succ, List.setIfInBounds_toArray, List.set_cons_zero, List.set_cons_succ]
        --@14
        refine x_skip (by kernel_rfl) ?_
        try simp only [Act.put, Array.getInternal_eq_getElem, List.getElem_toArray, List.getElem_cons_zero, List.getElem_cons_succ, List.setIfInBounds_toArray, List.set_cons_zero, List.set_cons_succ]
        --@15
        refine x_any (by kernel_rfl) ?_ (fun wq hC => ?_) ?_
        rotate_left
        · (go_simp) <;> (try (with_reducible rfl))
        try simp only [Act.put, Array.getInternal_eq_getElem, List.getElem_toArray, List.getElem_cons_zero, List.getElem_cons_succ, List.setIfInBounds_toArray, List.set_cons_zero, List.set_cons_succ]
        --@16
        refine x_any (by kernel_rfl) ?_ (fun wq hC => ?_) ?_
        rotate_left
        · (go_simp) <;> (try (with_reducible rfl))
        try simp only [Act.put, Array.getInternal_eq_getElem, List.getElem_toArray, List.getElem_cons_zero, List.getElem_cons_succ, List.setIfInBounds_toArray, List.set_cons_zero, List.set_cons_succ]
        --@17
        refine x_any (by kernel_rfl) ?_ (fun wq hC => ?_) ?_
        rotate_left
        · (go_simp) <;> (try (with_reducible rfl))
        try simp only [Act.put, Array.getInternal_eq_getElem, List.getElem_toArray, List.getElem_cons_zero, List.getElem_cons_succ, List.setIfInBounds_toArray, List.set_cons_zero, List.set_cons_succ]
        --@18
        refine x_any (by kernel_rfl) ?_ (fun wq hC => ?_) ?_
        rotate_left
        · (go_simp) <;> (try (with_reducible rfl))
        try simp only [Act.put, Array.getInternal_eq_getElem, List.getElem_toArray, List.getElem_cons_zero, List.getElem_cons_succ, List.setIfInBounds_toArray, List.set_cons_zero, List.set_cons_succ]
        refine x_nil ?_
        intro wv kwv
        go_wp2_with fail
        go_meet
        exact ⟨rfl, kwv⟩
  case rest =>
  obtain ⟨rfl, hcut⟩ := hcut
  obtain ⟨wr1, hwr⟩ : ∃ v, v = wc := ⟨_, rfl⟩
  rw [← hwr] at hcut ⊢
  have kwr1 := hcut
  clear hwr hcut
  go_upto_region 10 with fail
  try simp only [Act.put]
  go_cut [106] (fun sv wx => sv = .bool false ∧ Old wq0 wx)
  case first => as_aux_lemma =>
    cases pq0 with
    | true =>
      rw [has_true ((coversB_iff p q).1 HPQ.out.symm).2.2] at H7
      clear HPQ HQP
      go_wp2_with ((with_reducible show wpList _ _ _ (⟨some 92, _, _, _, _, _⟩ :: _) _ _); refine x_list kwr1 ?_)
      --@0
      refine x_load (by kernel_rfl) 28 _ rfl B7 0 rfl CP _ (fun wq hC => (F3_wq0 wq hC).1) Tryz.underlying28 rfl Z3.out ?_
      try simp only [Act.put, Array.getInternal_eq_getElem, List.getElem_toArray, List.getElem_cons_zero, List.getElem_cons_succ, List.setIfInBounds_toArray, List.set_cons_zero, List.set_cons_succ]
      --@1
      refine x_any (by kernel_rfl) ?_ (fun wq hC => ?_) ?_
      rotate_left
      · (go_simp) <;> (try (with_reducible rfl))
      try simp only [Act.put, Array.getInternal_eq_getElem, List.getElem_toArray, List.getElem_cons_zero, List.getElem_cons_succ, List.setIfInBounds_toArray, List.set_cons_zero, List.set_cons_succ]
      --@2
      refine x_load (by kernel_rfl) 24 _ rfl B9 0 rfl AQ _ (fun wq hC => (F4 wq hC).2.1) Tryz.underlying24 rfl ZA4.out ?_
      try simp only [Act.put, Array.getInternal_eq_getElem, List.getElem_toArray, List.getElem_cons_zero, List.getElem_cons_succ, List.setIfInBounds_toArray, List.set_cons_zero, List.set_cons_succ]
      --@3
      refine x_call (by kernel_rfl) (fun wq hC => old_call hC (H7 wq).out) (fun wq => ?_) ?_
      · go_simp <;> (try (with_reducible rfl))
      try simp only [Act.put, Array.getInternal_eq_getElem, List.getElem_toArray, List.getElem_cons_zero, List.getElem_cons_succ, List.setIfInBounds_toArray, List.set_cons_zero, List.set_cons_succ]
      --@4
      refine x_any (by kernel_rfl) ?_ (fun wq hC => ?_) ?_
      rotate_left
      · (go_simp) <;> (try (with_reducible rfl))
      try simp only [Act.put, Array.getInternal_eq_getElem, List.getElem_toArray, List.getElem_cons_zero, List.getElem_cons_succ, List.setIfInBounds_toArray, List.set_cons_zero, List.set_cons_succ]
      --@5
      refine x_skip (by kernel_rfl) ?_
      try simp only [Act.put, Array.getInternal_eq_getElem, List.getElem_toArray, List.getElem_cons_zero, List.getElem_cons_succ, List.setIfInBounds_toArray, List.set_cons_zero, List.set_cons_succ]
      --@6
      refine x_skip (by kernel_rfl) ?_
      try simp only [Act.put, Array.getInternal_eq_getElem, List.getElem_toArray, List.getElem_cons_zero, List.getElem_cons_succ, List.setIfInBounds_toArray, List.set_cons_zero, List.set_cons_succ]
      --@7
      refine x_skip (by kernel_rfl) ?_
      try simp only [Act.put, Array.getInternal_eq_getElem, List.getElem_toArray, List.getElem_cons_zero, List.getElem_cons_succ, List.setIfInBounds_toArray, List.set_cons_zero, List.set_cons_succ]
      --@8
      refine x_skip (by kernel_rfl) ?_
      try simp only [Act.put, Array.getInternal_eq_getElem, List.getElem_toArray, List.getElem_cons_zero, List.getElem_cons_succ, List.setIfInBounds_toArray, List.set_cons_zero, List.set_cons_succ]
      --@9
      refine x_any (by kernel_rfl) ?_ (fun wq hC => ?_) ?_
      rotate_left
      · (go_simp) <;> (try (with_reducible rfl))
      try simp only [Act.put, Array.getInternal_eq_getElem, List.getElem_toArray, List.getElem_cons_zero, List.getElem_cons_succ, List.setIfInBounds_toArray, List.set_cons_zero, List.set_cons_succ]
      --@10
      refine x_any (by kernel_rfl) ?_ (fun wq hC => ?_) ?_
      rotate_left
      · (go_simp) <;> (try (with_reducible rfl))
      try simp only [Act.put, Array.getInternal_eq_getElem, List.getElem_toArray, List.getElem_cons_zero, List.getElem_cons_succ, List.setIfInBounds_toArray, List.set_cons_zero, List.set_cons_succ]
      --@11
      refine x_any (by kernel_rfl) ?_ (fun wq hC => ?_) ?_
      rotate_left
      · (go_simp) <;> (try (with_reducible rfl))
      try simp only [Act.put, Array.getInternal_eq_getElem, List.getElem_toArray, List.getElem_cons_zero, List.getElem_cons_succ, List.setIfInBounds_toArray, List.set_cons_zero, List.set_cons_succ]
      --@12
      refine x_skip (by kernel_rfl) ?_
      try simp only [Act.put, Array.getInternal_eq_getElem, List.getElem_toArray, List.getElem_cons_zero, List.getElem_cons_succ, List.setIfInBounds_toArray, List.set_cons_zero, List.set_cons_succ]
      --@13
      refine x_any (by kernel_rfl) ?_ (fun wq hC => ?_) ?_
      rotate_left
      · (go_simp) <;> (try (with_reducible rfl))
      try simp only [Act.put, Array.getInternal_eq_getElem, List.getElem_toArray, List.getElem_cons_zero, List.getElem_cons_succ, List.setIfInBounds_toArray, List.set_cons_zero, List.set_cons_succ]
      --@14
      refine x_any (by kernel_rfl) ?_ (fun wq hC => ?_) ?_
      rotate_left
      · (go_simp) <;> (try (with_reducible rfl))
      try simp only [Act.put, Array.getInternal_eq_getElem, List.getElem_toArray, List.getElem_cons_zero, List.getElem_cons_succ, List.setIfInBounds_toArray, List.set_cons_zero, List.set_cons_succ]
      refine x_nil ?_
      intro wv kwv
      go_wp2_with fail
      go_meet
      exact ⟨rfl, kwv⟩
    | false =>
      have h4 := HPQ.out.symm
      cases qp0 with
      | true =>
        rw [has_true ((coversB_iff q p).1 HQP.out.symm).2.2] at H8
        clear h4 HPQ HQP
        cases h7 : hasB p q.a with
        | true =>
          rw [h7] at H7
          clear h7
          go_wp2_with ((with_reducible show wpList _ _ _ (⟨some 92, _, _, _, _, _⟩ :: _) _ _); refine x_list kwr1 ?_)
          --@0
          refine x_load (by kernel_rfl) 28 _ rfl B7 0 rfl CP _ (fun wq hC => (F3_wq0 wq hC).1) Tryz.underlying28 rfl Z3.out ?_
          try simp only [Act.put, Array.getInternal_eq_getElem, List.getElem_toArray, List.getElem_cons_zero, List.getElem_cons_succ, List.setIfInBounds_toArray, List.set_cons_zero, List.set_cons_succ]
          --@1
          refine x_any (by kernel_rfl) ?_ (fun wq hC => ?_) ?_
          rotate_left
          · (go_simp) <;> (try (with_reducible rfl))
          try simp only [Act.put, Array.getInternal_eq_getElem, List.getElem_toArray, List.getElem_cons_zero, List.getElem_cons_succ, List.setIfInBounds_toArray, List.set_cons_zero, List.set_cons_succ]
          --@2
          refine x_load (by kernel_rfl) 24 _ rfl B9 0 rfl AQ _ (fun wq hC => (F4 wq hC).2.1) Tryz.underlying24 rfl ZA4.out ?_
          try simp only [Act.put, Array.getInternal_eq_getElem, List.getElem_toArray, List.getElem_cons_zero, List.getElem_cons_succ, List.setIfInBounds_toArray, List.set_cons_zero, List.set_cons_succ]
          --@3
          refine x_call (by kernel_rfl) (fun wq hC => old_call hC (H7 wq).out) (fun wq => ?_) ?_
          · go_simp <;> (try (with_reducible rfl))
          try simp only [Act.put, Array.getInternal_eq_getElem, List.getElem_toArray, List.getElem_cons_zero, List.getElem_cons_succ, List.setIfInBounds_toArray, List.set_cons_zero, List.set_cons_succ]
          --@4
          refine x_any (by kernel_rfl) ?_ (fun wq hC => ?_) ?_
          rotate_left
          · (go_simp) <;> (try (with_reducible rfl))
          try simp only [Act.put, Array.getInternal_eq_getElem, List.getElem_toArray, List.getElem_cons_zero, List.getElem_cons_succ, List.setIfInBounds_toArray, List.set_cons_zero, List.set_cons_succ]
          --@5
          refine x_skip (by kernel_rfl) ?_
          try simp only [Act.put, Array.getInternal_eq_getElem, List.getElem_toArray, List.getElem_cons_zero, List.getElem_cons_succ, List.setIfInBounds_toArray, List.set_cons_zero, List.set_cons_succ]
          --@6
          refine x_skip (by kernel_rfl) ?_
          try simp only [Act.put, Array.getInternal_eq_getElem, List.getElem_toArray, List.getElem_cons_zero, List.getElem_cons_succ, List.setIfInBounds_toArray, List.set_cons_zero, List.set_cons_succ]
          --@7
          refine x_skip (by kernel_rfl) ?_
          try simp only [Act.put, Array.getInternal_eq_getElem, List.getElem_toArray, List.getElem_cons_zero, List.getElem_cons_succ, List.setIfInBounds_toArray, List.set_cons_zero, List.set_cons_succ]
          --@8
          refine x_skip (by kernel_rfl) ?_
          try simp only [Act.put, Array.getInternal_eq_getElem, List.getElem_toArray, List.getElem_cons_zero, List.getElem_cons_succ, List.setIfInBounds_toArray, List.set_cons_zero, List.set_cons_succ]
          --@9
          refine x_any (by kernel_rfl) ?_ (fun wq hC => ?_) ?_
          rotate_left
          · (go_simp) <;> (try (with_reducible rfl))
          try simp only [Act.put, Array.getInternal_eq_getElem, List.getElem_toArray, List.getElem_cons_zero, List.getElem_cons_succ, List.setIfInBounds_toArray, List.set_cons_zero, List.set_cons_succ]
          --@10
          refine x_any (by kernel_rfl) ?_ (fun wq hC => ?_) ?_
          rotate_left
          · (go_simp) <;> (try (with_reducible rfl))
          try simp only [Act.put, Array.getInternal_eq_getElem, List.getElem_toArray, List.getElem_cons_zero, List.getElem_cons_succ, List.setIfInBounds_toArray, List.set_cons_zero, List.set_cons_succ]
          --@11
          refine x_any (by kernel_rfl) ?_ (fun wq hC => ?_) ?_
          rotate_left
          · (go_simp) <;> (try (with_reducible rfl))
          try simp only [Act.put, Array.getInternal_eq_getElem, List.getElem_toArray, List.getElem_cons_zero, List.getElem_cons_succ, List.setIfInBounds_toArray, List.set_cons_zero, List.set_cons_succ]
          --@12
          refine x_any (by kernel_rfl) ?_ (fun wq hC => ?_) ?_
          rotate_left
          · (go_simp) <;> (try (with_reducible rfl))
          try simp only [Act.put, Array.getInternal_eq_getElem, List.getElem_toArray, List.getElem_cons_zero, List.getElem_cons_succ, List.setIfInBounds_toArray, List.set_cons_zero, List.set_cons_succ]
          --@13
          refine x_any (by kernel_rfl) ?_ (fun wq hC => ?_) ?_
          rotate_left
          · (go_simp) <;> (try (with_reducible rfl))
          try simp only [Act.put, Array.getInternal_eq_getElem, List.getElem_toArray, List.getElem_cons_zero, List.getElem_cons_succ, List.setIfInBounds_toArray, List.set_cons_zero, List.set_cons_succ]
          --@14
          refine x_any (by kernel_rfl) ?_ (fun wq hC => ?_) ?_
          rotate_left
          · (go_simp) <;> (try (with_reducible rfl))
          try simp only [Act.put, Array.getInternal_eq_getElem, List.getElem_toArray, List.getElem_cons_zero, List.getElem_cons_succ, List.setIfInBounds_toArray, List.set_cons_zero, List.set_cons_succ]
          refine x_nil ?_
          intro wv kwv
          go_wp2_with fail
          go_meet
          exact ⟨rfl, kwv⟩
        | false =>
          rw [h7] at H7
          clear h7
          go_wp2_with ((with_reducible show wpList _ _ _ (⟨some 92, _, _, _, _, _⟩ :: _) _ _); refine x_list kwr1 ?_)
          --@0
          refine x_load (by kernel_rfl) 28 _ rfl B7 0 rfl CP _ (fun wq hC => (F3_wq0 wq hC).1) Tryz.underlying28 rfl Z3.out ?_
          try simp only [Act.put, Array.getInternal_eq_getElem, List.getElem_toArray, List.getElem_cons_zero, List.getElem_cons_succ, List.setIfInBounds_toArray, List.set_cons_zero, List.set_cons_succ]
          --@1
          refine x_any (by kernel_rfl) ?_ (fun wq hC => ?_) ?_
          rotate_left
          · (go_simp) <;> (try (with_reducible rfl))
          try simp only [Act.put, Array.getInternal_eq_getElem, List.getElem_toArray, List.getElem_cons_zero, List.getElem_cons_succ, List.setIfInBounds_toArray, List.set_cons_zero, List.set_cons_succ]
          --@2
          refine x_load (by kernel_rfl) 24 _ rfl B9 0 rfl AQ _ (fun wq hC => (F4 wq hC).2.1) Tryz.underlying24 rfl ZA4.out ?_
          try simp only [Act.put, Array.getInternal_eq_getElem, List.getElem_toArray, List.getElem_cons_zero, List.getElem_cons_succ, List.setIfInBounds_toArray, List.set_cons_zero, List.set_cons_succ]
          --@3
          refine x_call (by kernel_rfl) (fun wq hC => old_call hC (H7 wq).out) (fun wq => ?_) ?_
          · go_simp <;> (try (with_reducible rfl))
          try simp only [Act.put, Array.getInternal_eq_getElem, List.getElem_toArray, List.getElem_cons_zero, List.getElem_cons_succ, List.setIfInBounds_toArray, List.set_cons_zero, List.set_cons_succ]
          --@4
          refine x_any (by kernel_rfl) ?_ (fun wq hC => ?_) ?_
          rotate_left
          · (go_simp) <;> (try (with_reducible rfl))
          try simp only [Act.put, Array.getInternal_eq_getElem, List.getElem_toArray, List.getElem_cons_zero, List.getElem_cons_succ, List.setIfInBounds_toArray, List.set_cons_zero, List.set_cons_succ]
          --@5
          refine x_load (by kernel_rfl) 28 _ rfl B9 0 rfl CQ _ (fun wq hC => (F4 wq hC).1) Tryz.underlying28 rfl Z4.out ?_
          try simp only [Act.put, Array.getInternal_eq_getElem, List.getElem_toArray, List.getElem_cons_zero, List.getElem_cons_succ, List.setIfInBounds_toArray, List.set_cons_zero, List.set_cons_succ]
          --@6
          refine x_any (by kernel_rfl) ?_ (fun wq hC => ?_) ?_
          rotate_left
          · (go_simp) <;> (try (with_reducible rfl))
          try simp only [Act.put, Array.getInternal_eq_getElem, List.getElem_toArray, List.getElem_cons_zero, List.getElem_cons_succ, List.setIfInBounds_toArray, List.set_cons_zero, List.set_cons_succ]
          --@7
          refine x_load (by kernel_rfl) 24 _ rfl B7 0 rfl AP _ (fun wq hC => (F3_wq0 wq hC).2.1) Tryz.underlying24 rfl ZA3.out ?_
          try simp only [Act.put, Array.getInternal_eq_getElem, List.getElem_toArray, List.getElem_cons_zero, List.getElem_cons_succ, List.setIfInBounds_toArray, List.set_cons_zero, List.set_cons_succ]
          --@8
          refine x_call (by kernel_rfl) (fun wq hC => old_call hC (H8 wq).out) (fun wq => ?_) ?_
          · go_simp <;> (try (with_reducible rfl))
          try simp only [Act.put, Array.getInternal_eq_getElem, List.getElem_toArray, List.getElem_cons_zero, List.getElem_cons_succ, List.setIfInBounds_toArray, List.set_cons_zero, List.set_cons_succ]
          --@9
          refine x_any (by kernel_rfl) ?_ (fun wq hC => ?_) ?_
          rotate_left
          · (go_simp) <;> (try (with_reducible rfl))
          try simp only [Act.put, Array.getInternal_eq_getElem, List.getElem_toArray, List.getElem_cons_zero, List.getElem_cons_succ, List.setIfInBounds_toArray, List.set_cons_zero, List.set_cons_succ]
          --@10
          refine x_any (by kernel_rfl) ?_ (fun wq hC => ?_) ?_
          rotate_left
          · (go_simp) <;> (try (with_reducible rfl))
          try simp only [Act.put, Array.getInternal_eq_getElem, List.getElem_toArray, List.getElem_cons_zero, List.getElem_cons_succ, List.setIfInBounds_toArray, List.set_cons_zero, List.set_cons_succ]
          --@11
          refine x_any (by kernel_rfl) ?_ (fun wq hC => ?_) ?_
          rotate_left
          · (go_simp) <;> (try (with_reducible rfl))
          try simp only [Act.put, Array.getInternal_eq_getElem, List.getElem_toArray, List.getElem_cons_zero, List.getElem_cons_succ, List.setIfInBounds_toArray, List.set_cons_zero, List.set_cons_succ]
          --@12
          refine x_any (by kernel_rfl) ?_ (fun wq hC => ?_) ?_
          rotate_left
          · (go_simp) <;> (try (with_reducible rfl))
          try simp only [Act.put, Array.getInternal_eq_getElem, List.getElem_toArray, List.getElem_cons_zero, List.getElem_cons_succ, List.setIfInBounds_toArray, List.set_cons_zero, List.set_cons_succ]
          --@13
          refine x_any (by kernel_rfl) ?_ (fun wq hC => ?_) ?_
          rotate_left
          · (go_simp) <;> (try (with_reducible rfl))
          try simp only [Act.put, Array.getInternal_eq_getElem, List.getElem_toArray, List.getElem_cons_zero, List.getElem_cons_succ, List.setIfInBounds_toArray, List.set_cons_zero, List.set_cons_succ]
          --@14
          refine x_any (by kernel_rfl) ?_ (fun wq hC => ?_) ?_
          rotate_left
          · (go_simp) <;> (try (with_reducible rfl))
          try simp only [Act.put, Array.getInternal_eq_getElem, List.getElem_toArray, List.getElem_cons_zero, List.getElem_cons_succ, List.setIfInBounds_toArray, List.set_cons_zero, List.set_cons_succ]
          refine x_nil ?_
          intro wv kwv
          go_wp2_with fail
          go_meet
          exact ⟨rfl, kwv⟩
      | false =>
        have h5 := HQP.out.symm
        rw [t_first h4 h5 HM.out.2.1] at H7
        rw [t_first h5 h4 HM.out.1] at H8
        clear h4 h5 HPQ HQP
        go_wp2_with ((with_reducible show wpList _ _ _ (⟨some 92, _, _, _, _, _⟩ :: _) _ _); refine x_list kwr1 ?_)
        --@0
        refine x_load (by kernel_rfl) 28 _ rfl B7 0 rfl CP _ (fun wq hC => (F3_wq0 wq hC).1) Tryz.underlying28 rfl Z3.out ?_
        try simp only [Act.put, Array.getInternal_eq_getElem, List.getElem_toArray, List.getElem_cons_zero, List.getElem_cons_succ, List.setIfInBounds_toArray, List.set_cons_zero, List.set_cons_succ]
        --@1
        refine x_any (by kernel_rfl) ?_ (fun wq hC => ?_) ?_
        rotate_left
        · (go_simp) <;> (try (with_reducible rfl))
        try simp only [Act.put, Array.getInternal_eq_getElem, List.getElem_toArray, List.getElem_cons_zero, List.getElem_cons_succ, List.setIfInBounds_toArray, List.set_cons_zero, List.set_cons_succ]
        --@2
        refine x_load (by kernel_rfl) 24 _ rfl B9 0 rfl AQ _ (fun wq hC => (F4 wq hC).2.1) Tryz.underlying24 rfl ZA4.out ?_
        try simp only [Act.put, Array.getInternal_eq_getElem, List.getElem_toArray, List.getElem_cons_zero, List.getElem_cons_succ, List.setIfInBounds_toArray, List.set_cons_zero, List.set_cons_succ]
        --@3
        refine x_call (by kernel_rfl) (fun wq hC => old_call hC (H7 wq).out) (fun wq => ?_) ?_
        · go_simp <;> (try (with_reducible rfl))
        try simp only [Act.put, Array.getInternal_eq_getElem, List.getElem_toArray, List.getElem_cons_zero, List.getElem_cons_succ, List.setIfInBounds_toArray, List.set_cons_zero, List.set_cons_succ]
        --@4
        refine x_any (by kernel_rfl) ?_ (fun wq hC => ?_) ?_
        rotate_left
        · (go_simp) <;> (try (with_reducible rfl))
        try simp only [Act.put, Array.getInternal_eq_getElem, List.getElem_toArray, List.getElem_cons_zero, List.getElem_cons_succ, List.setIfInBounds_toArray, List.set_cons_zero, List.set_cons_succ]
        --@5
        refine x_load (by kernel_rfl) 28 _ rfl B9 0 rfl CQ _ (fun wq hC => (F4 wq hC).1) Tryz.underlying28 rfl Z4.out ?_
        try simp only [Act.put, Array.getInternal_eq_getElem, List.getElem_toArray, List.getElem_cons_zero, List.getElem_cons_succ, List.setIfInBounds_toArray, List.set_cons_zero, List.set_cons_succ]
        --@6
        refine x_any (by kernel_rfl) ?_ (fun wq hC => ?_) ?_
        rotate_left
        · (go_simp) <;> (try (with_reducible rfl))
        try simp only [Act.put, Array.getInternal_eq_getElem, List.getElem_toArray, List.getElem_cons_zero, List.getElem_cons_succ, List.setIfInBounds_toArray, List.set_cons_zero, List.set_cons_succ]
        --@7
        refine x_load (by kernel_rfl) 24 _ rfl B7 0 rfl AP _ (fun wq hC => (F3_wq0 wq hC).2.1) Tryz.underlying24 rfl ZA3.out ?_
        try simp only [Act.put, Array.getInternal_eq_getElem, List.getElem_toArray, List.getElem_cons_zero, List.getElem_cons_succ, List.setIfInBounds_toArray, List.set_cons_zero, List.set_cons_succ]
        --@8
        refine x_call (by kernel_rfl) (fun wq hC => old_call hC (H8 wq).out) (fun wq => ?_) ?_
        · go_simp <;> (try (with_reducible rfl))
        try simp only [Act.put, Array.getInternal_eq_getElem, List.getElem_toArray, List.getElem_cons_zero, List.getElem_cons_succ, List.setIfInBounds_toArray, List.set_cons_zero, List.set_cons_succ]
        --@9
        refine x_any (by kernel_rfl) ?_ (fun wq hC => ?_) ?_
        rotate_left
        · (go_simp) <;> (try (with_reducible rfl))
        try simp only [Act.put, Array.getInternal_eq_getElem, List.getElem_toArray, List.getElem_cons_zero, List.getElem_cons_succ, List.setIfInBounds_toArray, List.set_cons_zero, List.set_cons_succ]
        --@10
        refine x_any (by kernel_rfl) ?_ (fun wq hC => ?_) ?_
        rotate_left
        · (go_simp) <;> (try (with_reducible rfl))
        try simp only [Act.put, Array.getInternal_eq_getElem, List.getElem_toArray, List.getElem_cons_zero, List.getElem_cons_succ, List.setIfInBounds_toArray, List.set_cons_zero, List.set_cons_succ]
        --@11
        refine x_any (by kernel_rfl) ?_ (fun wq hC => ?_) ?_
        rotate_left
        · (go_simp) <;> (try (with_reducible rfl))
        try simp only [Act.put, Array.getInternal_eq_getElem, List.getElem_toArray, List.getElem_cons_zero, List.getElem_cons_succ, List.setIfInBounds_toArray, List.set_cons_zero, List.set_cons_succ]
        --@12
        refine x_any (by kernel_rfl) ?_ (fun wq hC => ?_) ?_
        rotate_left
        · (go_simp) <;> (try (with_reducible rfl))
        try simp only [Act.put, Array.getInternal_eq_getElem, List.getElem_toArray, List.getElem_cons_zero, List.getElem_cons_succ, List.setIfInBounds_toArray, List.set_cons_zero, List.set_cons_succ]
        --@13
        refine x_any (by kernel_rfl) ?_ (fun wq hC => ?_) ?_
        rotate_left
        · (go_simp) <;> (try (with_reducible rfl))
        try simp only [Act.put, Array.getInternal_eq_getElem, List.getElem_toArray, List.getElem_cons_zero, List.getElem_cons_succ, List.setIfInBounds_toArray, List.set_cons_zero, List.set_cons_succ]
        --@14
        refine x_any (by kernel_rfl) ?_ (fun wq hC => ?_) ?_
        rotate_left
        · (go_simp) <;> (try (with_reducible rfl))
        try simp only [Act.put, Array.getInternal_eq_getElem, List.getElem_toArray, List.getElem_cons_zero, List.getElem_cons_succ, List.setIfInBounds_toArray, List.set_cons_zero, List.set_cons_succ]
        refine x_nil ?_
        intro wv kwv
        go_wp2_with fail
        go_meet
        exact ⟨rfl, kwv⟩
  case rest =>
  obtain ⟨rfl, hcut⟩ := hcut
  obtain ⟨wr0, hwr⟩ : ∃ v, v = wc := ⟨_, rfl⟩
  rw [← hwr] at hcut ⊢
  have kwr0 := hcut
  clear hwr hcut
  clear HEQ H1 H2 H3 H4 H5 H7 H8
  go_wp2_with ((with_reducible show wpList _ _ _ (⟨some 108, _, _, _, _, _⟩ :: _) _ _); refine x_list kwr0 ?_)
  --@0
  refine x_load (by kernel_rfl) 28 _ rfl B7 0 rfl CP _ (fun wq hC => (F3_wq0 wq hC).1) Tryz.underlying28 rfl Z3.out ?_
  try simp only [Act.put, Array.getInternal_eq_getElem, List.getElem_toArray, List.getElem_cons_zero, List.getElem_cons_succ, List.setIfInBounds_toArray, List.set_cons_zero, List.set_cons_succ]
  --@1
  refine x_call (by kernel_rfl) (fun wq hC => old_call hC (H9 wq).out) (fun wq => ?_) ?_
  · go_simp <;> (try (with_reducible rfl))
  try simp only [Act.put, Array.getInternal_eq_getElem, List.getElem_toArray, List.getElem_cons_zero, List.getElem_cons_succ, List.setIfInBounds_toArray, List.set_cons_zero, List.set_cons_succ]
  --@2
  refine x_any (by kernel_rfl) ?_ (fun wq hC => ?_) ?_
  rotate_left
  · (go_simp) <;> (try (with_reducible rfl))
  try simp only [Act.put, Array.getInternal_eq_getElem, List.getElem_toArray, List.getElem_cons_zero, List.getElem_cons_succ, List.setIfInBounds_toArray, List.set_cons_zero, List.set_cons_succ]
  --@3
  refine x_any (by kernel_rfl) ?_ (fun wq hC => ?_) ?_
  rotate_left
  · (go_simp) <;> (try (with_reducible rfl))
  try simp only [Act.put, Array.getInternal_eq_getElem, List.getElem_toArray, List.getElem_cons_zero, List.getElem_cons_succ, List.setIfInBounds_toArray, List.set_cons_zero, List.set_cons_succ]
  --@4
  refine x_any (by kernel_rfl) ?_ (fun wq hC => ?_) ?_
  rotate_left
  · (go_simp) <;> (try (with_reducible rfl))
  try simp only [Act.put, Array.getInternal_eq_getElem, List.getElem_toArray, List.getElem_cons_zero, List.getElem_cons_succ, List.setIfInBounds_toArray, List.set_cons_zero, List.set_cons_succ]
  --@5
  refine x_any (by kernel_rfl) ?_ (fun wq hC => ?_) ?_
  rotate_left
  · (go_simp) <;> (try (with_reducible rfl))
  try simp only [Act.put, Array.getInternal_eq_getElem, List.getElem_toArray, List.getElem_cons_zero, List.getElem_cons_succ, List.setIfInBounds_toArray, List.set_cons_zero, List.set_cons_succ]
  refine x_stop ?_
  intro wj kwj
  obtain ⟨b6, hb6, htb6, hub6, bbb6, bcb6, kbb6⟩ := box_two_px wj x y hxw hyw
  have HTb6 := Lib.hid htb6
  have HUb6 := Lib.hid hub6
  have HBb6 := Lib.hid hb6
  have KOb6 : Old wq0 b6 := kwj.trans (kbb6 _)
  have Kb6 : Hid (∀ S, Keeps S w b6) := Lib.hid (fun S => (Kwq0.out S).trans (KOb6.all S))
  have F0_b6 := fun (wq : World) (hC : Old b6 wq) => F0_wq0 wq (KOb6.trans hC)
  have F1_b6 := fun (wq : World) (hC : Old b6 wq) => F1_wq0 wq (KOb6.trans hC)
  have F3_b6 := fun (wq : World) (hC : Old b6 wq) => F3_wq0 wq (KOb6.trans hC)
  have F4_b6 := fun (wq : World) (hC : Old b6 wq) => F4 wq (KOb6.trans hC)
  have F4 := px_facts hxw bbb6
  have Z4 := Lib.hid (px_sz hxw)
  have ZA4 := Lib.hid (ad_sz hxw)
  rw [HCX.out] at F4 Z4
  rw [HAX.out] at F4 ZA4
  have F5 := px_facts hyw bcb6
  have Z5 := Lib.hid (px_sz hyw)
  have ZA5 := Lib.hid (ad_sz hyw)
  rw [HCY.out] at F5 Z5
  rw [HAY.out] at F5 ZA5
  rw [HCX.out, HCY.out] at HBb6
  rw [HCX.out] at HTb6 HUb6
  rw [HCY.out] at HUb6
  clear hb6 htb6 hub6 bbb6 bcb6 kbb6
  have PB := fun (wq : World) (hC : Old b6 wq) => PB wq (KOb6.trans hC)
  have HEV := fun (wq : World) (hC : Old b6 wq) => HEV0.out.keeps (fun S => (Kb6.out S).trans (hC.all S))
  go_upto_region 13 with (first | (refine wpList_store_mid rfl 28 _ _ rfl wj.heap.size 0 CX.toArray rfl rfl HTb6.out.1 HTb6.out.2.1 HTb6.out.2.2 ?_) | (refine wpList_store_mid rfl 28 _ _ rfl (wj.heap.size + 1) 0 CY.toArray rfl rfl HUb6.out.1 HUb6.out.2.1 HUb6.out.2.2 ?_; rw [← HBb6.out]))
  try simp only [Act.put]
  rcases HXY.out with ⟨he, hwh⟩ | ⟨he, hwh⟩
  · as_aux_lemma =>
    obtain ⟨_, _, e3⟩ := HX.out
    rw [he] at e3
    simp only at e3
    subst e3
    have H6 := fun w => H6 w
    have hpb := HPB.out hwh
    rw [hpb] at H6
    have HHB : (decide (a = b) == decide (a = b)) = true := by simp
    have hwe : (bp == wd) = true := by simpa using hwh
    generalize decide (a = b) = u at *
    clear he hwh hpb
    skip
    refine q_region (by kernel_rfl) (by kernel_rfl) (Old.refl b6) ?_
    --@0
    refine q_any (by kernel_rfl) ?_ (fun wq hC => ?_) ?_
    rotate_left
    · (go_simp) <;> (try (with_reducible rfl))
    try simp only [Act.put, Array.getInternal_eq_getElem, List.getElem_toArray, List.getElem_cons_zero, List.getElem_cons_succ, List.setIfInBounds_toArray, List.set_cons_zero, List.set_cons_succ]
    --@1
    refine q_any (by kernel_rfl) ?_ (fun wq hC => ?_) ?_
    rotate_left
    · (have hF := (F3_b6 wq hC).2.2.2.1; (try dsimp only at hF); go_simp) <;> (try (with_reducible rfl))
    try simp only [Act.put, Array.getInternal_eq_getElem, List.getElem_toArray, List.getElem_cons_zero, List.getElem_cons_succ, List.setIfInBounds_toArray, List.set_cons_zero, List.set_cons_succ]
    --@2
    refine q_load (by kernel_rfl) 24 _ rfl w.heap.size 0 rfl CA _ (fun wq hC => (F0_b6 wq hC).1) Tryz.underlying24 rfl Z0.out ?_
    try simp only [Act.put, Array.getInternal_eq_getElem, List.getElem_toArray, List.getElem_cons_zero, List.getElem_cons_succ, List.setIfInBounds_toArray, List.set_cons_zero, List.set_cons_succ]
    --@3
    refine q_call (by kernel_rfl) (fun wq hC => old_call hC (HWd wq).out) (fun wq => ?_) ?_
    · go_simp <;> (try (with_reducible rfl))
    try simp only [Act.put, Array.getInternal_eq_getElem, List.getElem_toArray, List.getElem_cons_zero, List.getElem_cons_succ, List.setIfInBounds_toArray, List.set_cons_zero, List.set_cons_succ]
    --@4
    refine q_any (by kernel_rfl) ?_ (fun wq hC => ?_) ?_
    rotate_left
    · (have hN := hwe; go_simp) <;> (try (with_reducible rfl))
    try simp only [Act.put, Array.getInternal_eq_getElem, List.getElem_toArray, List.getElem_cons_zero, List.getElem_cons_succ, List.setIfInBounds_toArray, List.set_cons_zero, List.set_cons_succ]
    refine q_nil ?_
    intro wl kwl
    go_wp2_with fail
    refine q_region (by kernel_rfl) (by kernel_rfl) kwl ?_
    --@0
    refine q_any (by kernel_rfl) ?_ (fun wq hC => ?_) ?_
    rotate_left
    · (go_simp) <;> (try (with_reducible rfl))
    try simp only [Act.put, Array.getInternal_eq_getElem, List.getElem_toArray, List.getElem_cons_zero, List.getElem_cons_succ, List.setIfInBounds_toArray, List.set_cons_zero, List.set_cons_succ]
    --@1
    refine q_any (by kernel_rfl) ?_ (fun wq hC => ?_) ?_
    rotate_left
    · (go_simp) <;> (try (with_reducible rfl))
    try simp only [Act.put, Array.getInternal_eq_getElem, List.getElem_toArray, List.getElem_cons_zero, List.getElem_cons_succ, List.setIfInBounds_toArray, List.set_cons_zero, List.set_cons_succ]
    --@2
    refine q_any (by kernel_rfl) ?_ (fun wq hC => ?_) ?_
    rotate_left
    · (go_simp) <;> (try (with_reducible rfl))
    try simp only [Act.put, Array.getInternal_eq_getElem, List.getElem_toArray, List.getElem_cons_zero, List.getElem_cons_succ, List.setIfInBounds_toArray, List.set_cons_zero, List.set_cons_succ]
    --@3
    refine q_load (by kernel_rfl) 28 _ rfl B7 0 rfl CP _ (fun wq hC => (F3_b6 wq hC).1) Tryz.underlying28 rfl Z3.out ?_
    try simp only [Act.put, Array.getInternal_eq_getElem, List.getElem_toArray, List.getElem_cons_zero, List.getElem_cons_succ, List.setIfInBounds_toArray, List.set_cons_zero, List.set_cons_succ]
    --@4
    refine q_load (by kernel_rfl) 24 _ rfl (w.heap.size + 1) 0 rfl CB _ (fun wq hC => (F1_b6 wq hC).1) Tryz.underlying24 rfl Z1.out ?_
    try simp only [Act.put, Array.getInternal_eq_getElem, List.getElem_toArray, List.getElem_cons_zero, List.getElem_cons_succ, List.setIfInBounds_toArray, List.set_cons_zero, List.set_cons_succ]
    --@5
    refine q_call (by kernel_rfl) (fun wq hC => old_call hC (H6 wq).out) (fun wq => ?_) ?_
    · go_simp <;> (try (with_reducible rfl))
    try simp only [Act.put, Array.getInternal_eq_getElem, List.getElem_toArray, List.getElem_cons_zero, List.getElem_cons_succ, List.setIfInBounds_toArray, List.set_cons_zero, List.set_cons_succ]
    --@6
    refine q_load (by kernel_rfl) 24 _ rfl w.heap.size 0 rfl CA _ (fun wq hC => (F0_b6 wq hC).1) Tryz.underlying24 rfl Z0.out ?_
    try simp only [Act.put, Array.getInternal_eq_getElem, List.getElem_toArray, List.getElem_cons_zero, List.getElem_cons_succ, List.setIfInBounds_toArray, List.set_cons_zero, List.set_cons_succ]
    --@7
    refine q_load (by kernel_rfl) 24 _ rfl (w.heap.size + 1) 0 rfl CB _ (fun wq hC => (F1_b6 wq hC).1) Tryz.underlying24 rfl Z1.out ?_
    try simp only [Act.put, Array.getInternal_eq_getElem, List.getElem_toArray, List.getElem_cons_zero, List.getElem_cons_succ, List.setIfInBounds_toArray, List.set_cons_zero, List.set_cons_succ]
    --@8
    refine q_any (by kernel_rfl) ?_ (fun wq hC => ?_) ?_
    rotate_left
    · (have hN := HEB; go_simp) <;> (try (with_reducible rfl))
    try simp only [Act.put, Array.getInternal_eq_getElem, List.getElem_toArray, List.getElem_cons_zero, List.getElem_cons_succ, List.setIfInBounds_toArray, List.set_cons_zero, List.set_cons_succ]
    --@9
    refine q_any (by kernel_rfl) ?_ (fun wq hC => ?_) ?_
    rotate_left
    · (have hN := HHB; go_simp) <;> (try (with_reducible rfl))
    try simp only [Act.put, Array.getInternal_eq_getElem, List.getElem_toArray, List.getElem_cons_zero, List.getElem_cons_succ, List.setIfInBounds_toArray, List.set_cons_zero, List.set_cons_succ]
    --@10
    refine q_any (by kernel_rfl) ?_ (fun wq hC => ?_) ?_
    rotate_left
    · (go_simp) <;> (try (with_reducible rfl))
    try simp only [Act.put, Array.getInternal_eq_getElem, List.getElem_toArray, List.getElem_cons_zero, List.getElem_cons_succ, List.setIfInBounds_toArray, List.set_cons_zero, List.set_cons_succ]
    --@11
    refine q_any (by kernel_rfl) ?_ (fun wq hC => ?_) ?_
    rotate_left
    · (go_simp) <;> (try (with_reducible rfl))
    try simp only [Act.put, Array.getInternal_eq_getElem, List.getElem_toArray, List.getElem_cons_zero, List.getElem_cons_succ, List.setIfInBounds_toArray, List.set_cons_zero, List.set_cons_succ]
    --@12
    refine q_call (by kernel_rfl) (fun wq hC => old_call hC (HWK wq (HEV wq hC)).out) (fun wq => ?_) ?_
    · go_simp <;> (try (with_reducible rfl))
    try simp only [Act.put, Array.getInternal_eq_getElem, List.getElem_toArray, List.getElem_cons_zero, List.getElem_cons_succ, List.setIfInBounds_toArray, List.set_cons_zero, List.set_cons_succ]
    --@13
    refine q_any (by kernel_rfl) ?_ (fun wq hC => ?_) ?_
    rotate_left
    · (go_simp) <;> (try (with_reducible rfl))
    try simp only [Act.put, Array.getInternal_eq_getElem, List.getElem_toArray, List.getElem_cons_zero, List.getElem_cons_succ, List.setIfInBounds_toArray, List.set_cons_zero, List.set_cons_succ]
    --@14
    refine q_any (by kernel_rfl) ?_ (fun wq hC => ?_) ?_
    rotate_left
    · (go_simp) <;> (try (with_reducible rfl))
    try simp only [Act.put, Array.getInternal_eq_getElem, List.getElem_toArray, List.getElem_cons_zero, List.getElem_cons_succ, List.setIfInBounds_toArray, List.set_cons_zero, List.set_cons_succ]
    refine q_nil ?_
    intro wz kwz
    have KZ : Hid (∀ S, Keeps S w wz) := Lib.hid (fun S => (Kb6.out S).trans (kwz.all S))
    clear kwz
    go_wp2
    try rw [Exit.noGoto_ret]
    go_ret
    exact ⟨rfl, KZ.out⟩
  · as_aux_lemma =>
    obtain ⟨e1, e2, e3⟩ := HX.out
    rw [he] at e1 e2 e3
    simp only at e1 e2 e3
    subst e3
    have hne : ¬ p.bits = (wid p.a : Int) := by rw [← HBP.out, ← HWD.out]; exact hwh
    have hxo := h_xor hpw HM.out.1 hne HM.out.2.2.1
    rw [← e1, ← e2] at hxo
    rw [hxo] at G2
    have HXO : (hasB x a == !hasB x a) = false := by cases hasB x a <;> rfl
    have hcp := half_cmp hpw HM.out.1 hne
    rw [← e1, ← e2] at hcp
    rw [hcp.1] at G5
    rw [hcp.2] at G6
    obtain ⟨c1, c2, c3, c4⟩ := h_cov hpw HM.out.1 hne
    rw [← e1] at c1 c3 c4
    rw [← e2] at c2 c3 c4
    rw [c1] at G7
    rw [c2] at G8
    rw [c3] at G9
    rw [c4] at G10
    have HYES := Lib.hid (fun z => h_yes hpw HM.out.1 hne (b := b) z)
    have HNO := Lib.hid (fun z => h_no hpw HM.out.1 hne (b := b) z)
    rw [← e1, ← e2] at HYES HNO
    have hwe : (bp == wd) = false := by simpa using hwh
    generalize hasB x a = u at *
    clear he hwh hne hxo hcp c1 c2 c3 c4 e1 e2
    skip
    refine q_region (by kernel_rfl) (by kernel_rfl) (Old.refl b6) ?_
    --@0
    refine q_any (by kernel_rfl) ?_ (fun wq hC => ?_) ?_
    rotate_left
    · (go_simp) <;> (try (with_reducible rfl))
    try simp only [Act.put, Array.getInternal_eq_getElem, List.getElem_toArray, List.getElem_cons_zero, List.getElem_cons_succ, List.setIfInBounds_toArray, List.set_cons_zero, List.set_cons_succ]
    --@1
    refine q_any (by kernel_rfl) ?_ (fun wq hC => ?_) ?_
    rotate_left
    · (have hF := (F3_b6 wq hC).2.2.2.1; (try dsimp only at hF); go_simp) <;> (try (with_reducible rfl))
    try simp only [Act.put, Array.getInternal_eq_getElem, List.getElem_toArray, List.getElem_cons_zero, List.getElem_cons_succ, List.setIfInBounds_toArray, List.set_cons_zero, List.set_cons_succ]
    --@2
    refine q_load (by kernel_rfl) 24 _ rfl w.heap.size 0 rfl CA _ (fun wq hC => (F0_b6 wq hC).1) Tryz.underlying24 rfl Z0.out ?_
    try simp only [Act.put, Array.getInternal_eq_getElem, List.getElem_toArray, List.getElem_cons_zero, List.getElem_cons_succ, List.setIfInBounds_toArray, List.set_cons_zero, List.set_cons_succ]
    --@3
    refine q_call (by kernel_rfl) (fun wq hC => old_call hC (HWd wq).out) (fun wq => ?_) ?_
    · go_simp <;> (try (with_reducible rfl))
    try simp only [Act.put, Array.getInternal_eq_getElem, List.getElem_toArray, List.getElem_cons_zero, List.getElem_cons_succ, List.setIfInBounds_toArray, List.set_cons_zero, List.set_cons_succ]
    --@4
    refine q_any (by kernel_rfl) ?_ (fun wq hC => ?_) ?_
    rotate_left
    · (have hN := hwe; go_simp) <;> (try (with_reducible rfl))
    try simp only [Act.put, Array.getInternal_eq_getElem, List.getElem_toArray, List.getElem_cons_zero, List.getElem_cons_succ, List.setIfInBounds_toArray, List.set_cons_zero, List.set_cons_succ]
    refine q_nil ?_
    intro wl kwl
    go_upto_region 15 with fail
    go_cut [178] (fun sv wx => sv = .bool false ∧ Old b6 wx)
    case first => as_aux_lemma =>
      cases h3 : hasB x b with
      | true =>
        obtain ⟨g1, g2⟩ := HYES.out h3
        rw [h3] at G3
        rw [g1] at G4
        rw [g2] at H6
        clear h3 g1 g2
        skip
        refine q_region (by kernel_rfl) (by kernel_rfl) kwl ?_
        --@0
        refine q_any (by kernel_rfl) ?_ (fun wq hC => ?_) ?_
        rotate_left
        · (go_simp) <;> (try (with_reducible rfl))
        try simp only [Act.put, Array.getInternal_eq_getElem, List.getElem_toArray, List.getElem_cons_zero, List.getElem_cons_succ, List.setIfInBounds_toArray, List.set_cons_zero, List.set_cons_succ]
        --@1
        refine q_any (by kernel_rfl) ?_ (fun wq hC => ?_) ?_
        rotate_left
        · (go_simp) <;> (try (with_reducible rfl))
        try simp only [Act.put, Array.getInternal_eq_getElem, List.getElem_toArray, List.getElem_cons_zero, List.getElem_cons_succ, List.setIfInBounds_toArray, List.set_cons_zero, List.set_cons_succ]
        --@2
        refine q_any (by kernel_rfl) ?_ (fun wq hC => ?_) ?_
        rotate_left
        · (go_simp) <;> (try (with_reducible rfl))
        try simp only [Act.put, Array.getInternal_eq_getElem, List.getElem_toArray, List.getElem_cons_zero, List.getElem_cons_succ, List.setIfInBounds_toArray, List.set_cons_zero, List.set_cons_succ]
        --@3
        refine q_load (by kernel_rfl) 28 _ rfl wj.heap.size 0 rfl CX _ (fun wq hC => (F4 wq hC).1) Tryz.underlying28 rfl Z4.out ?_
        try simp only [Act.put, Array.getInternal_eq_getElem, List.getElem_toArray, List.getElem_cons_zero, List.getElem_cons_succ, List.setIfInBounds_toArray, List.set_cons_zero, List.set_cons_succ]
        --@4
        refine q_load (by kernel_rfl) 24 _ rfl w.heap.size 0 rfl CA _ (fun wq hC => (F0_b6 wq hC).1) Tryz.underlying24 rfl Z0.out ?_
        try simp only [Act.put, Array.getInternal_eq_getElem, List.getElem_toArray, List.getElem_cons_zero, List.getElem_cons_succ, List.setIfInBounds_toArray, List.set_cons_zero, List.set_cons_succ]
        --@5
        refine q_call (by kernel_rfl) (fun wq hC => old_call hC (G1 wq).out) (fun wq => ?_) ?_
        · go_simp <;> (try (with_reducible rfl))
        try simp only [Act.put, Array.getInternal_eq_getElem, List.getElem_toArray, List.getElem_cons_zero, List.getElem_cons_succ, List.setIfInBounds_toArray, List.set_cons_zero, List.set_cons_succ]
        --@6
        refine q_load (by kernel_rfl) 28 _ rfl (wj.heap.size + 1) 0 rfl CY _ (fun wq hC => (F5 wq hC).1) Tryz.underlying28 rfl Z5.out ?_
        try simp only [Act.put, Array.getInternal_eq_getElem, List.getElem_toArray, List.getElem_cons_zero, List.getElem_cons_succ, List.setIfInBounds_toArray, List.set_cons_zero, List.set_cons_succ]
        --@7
        refine q_load (by kernel_rfl) 24 _ rfl w.heap.size 0 rfl CA _ (fun wq hC => (F0_b6 wq hC).1) Tryz.underlying24 rfl Z0.out ?_
        try simp only [Act.put, Array.getInternal_eq_getElem, List.getElem_toArray, List.getElem_cons_zero, List.getElem_cons_succ, List.setIfInBounds_toArray, List.set_cons_zero, List.set_cons_succ]
        --@8
        refine q_call (by kernel_rfl) (fun wq hC => old_call hC (G2 wq).out) (fun wq => ?_) ?_
        · go_simp <;> (try (with_reducible rfl))
        try simp only [Act.put, Array.getInternal_eq_getElem, List.getElem_toArray, List.getElem_cons_zero, List.getElem_cons_succ, List.setIfInBounds_toArray, List.set_cons_zero, List.set_cons_succ]
        --@9
        refine q_any (by kernel_rfl) ?_ (fun wq hC => ?_) ?_
        rotate_left
        · (have hN := HXO; go_simp) <;> (try (with_reducible rfl))
        try simp only [Act.put, Array.getInternal_eq_getElem, List.getElem_toArray, List.getElem_cons_zero, List.getElem_cons_succ, List.setIfInBounds_toArray, List.set_cons_zero, List.set_cons_succ]
        --@10
        refine q_any (by kernel_rfl) ?_ (fun wq hC => ?_) ?_
        rotate_left
        · (go_simp) <;> (try (with_reducible rfl))
        try simp only [Act.put, Array.getInternal_eq_getElem, List.getElem_toArray, List.getElem_cons_zero, List.getElem_cons_succ, List.setIfInBounds_toArray, List.set_cons_zero, List.set_cons_succ]
        --@11
        refine q_any (by kernel_rfl) ?_ (fun wq hC => ?_) ?_
        rotate_left
        · (go_simp) <;> (try (with_reducible rfl))
        try simp only [Act.put, Array.getInternal_eq_getElem, List.getElem_toArray, List.getElem_cons_zero, List.getElem_cons_succ, List.setIfInBounds_toArray, List.set_cons_zero, List.set_cons_succ]
        --@12
        refine q_load (by kernel_rfl) 28 _ rfl B7 0 rfl CP _ (fun wq hC => (F3_b6 wq hC).1) Tryz.underlying28 rfl Z3.out ?_
        try simp only [Act.put, Array.getInternal_eq_getElem, List.getElem_toArray, List.getElem_cons_zero, List.getElem_cons_succ, List.setIfInBounds_toArray, List.set_cons_zero, List.set_cons_succ]
        --@13
        refine q_load (by kernel_rfl) 24 _ rfl (w.heap.size + 1) 0 rfl CB _ (fun wq hC => (F1_b6 wq hC).1) Tryz.underlying24 rfl Z1.out ?_
        try simp only [Act.put, Array.getInternal_eq_getElem, List.getElem_toArray, List.getElem_cons_zero, List.getElem_cons_succ, List.setIfInBounds_toArray, List.set_cons_zero, List.set_cons_succ]
        --@14
        refine q_call (by kernel_rfl) (fun wq hC => old_call hC (H6 wq).out) (fun wq => ?_) ?_
        · go_simp <;> (try (with_reducible rfl))
        try simp only [Act.put, Array.getInternal_eq_getElem, List.getElem_toArray, List.getElem_cons_zero, List.getElem_cons_succ, List.setIfInBounds_toArray, List.set_cons_zero, List.set_cons_succ]
        --@15
        refine q_load (by kernel_rfl) 28 _ rfl wj.heap.size 0 rfl CX _ (fun wq hC => (F4 wq hC).1) Tryz.underlying28 rfl Z4.out ?_
        try simp only [Act.put, Array.getInternal_eq_getElem, List.getElem_toArray, List.getElem_cons_zero, List.getElem_cons_succ, List.setIfInBounds_toArray, List.set_cons_zero, List.set_cons_succ]
        --@16
        refine q_load (by kernel_rfl) 24 _ rfl (w.heap.size + 1) 0 rfl CB _ (fun wq hC => (F1_b6 wq hC).1) Tryz.underlying24 rfl Z1.out ?_
        try simp only [Act.put, Array.getInternal_eq_getElem, List.getElem_toArray, List.getElem_cons_zero, List.getElem_cons_succ, List.setIfInBounds_toArray, List.set_cons_zero, List.set_cons_succ]
        --@17
        refine q_call (by kernel_rfl) (fun wq hC => old_call hC (G3 wq).out) (fun wq => ?_) ?_
        · go_simp <;> (try (with_reducible rfl))
        try simp only [Act.put, Array.getInternal_eq_getElem, List.getElem_toArray, List.getElem_cons_zero, List.getElem_cons_succ, List.setIfInBounds_toArray, List.set_cons_zero, List.set_cons_succ]
        --@18
        refine q_any (by kernel_rfl) ?_ (fun wq hC => ?_) ?_
        rotate_left
        · (go_simp) <;> (try (with_reducible rfl))
        try simp only [Act.put, Array.getInternal_eq_getElem, List.getElem_toArray, List.getElem_cons_zero, List.getElem_cons_succ, List.setIfInBounds_toArray, List.set_cons_zero, List.set_cons_succ]
        --@19
        refine q_skip (by kernel_rfl) ?_
        try simp only [Act.put, Array.getInternal_eq_getElem, List.getElem_toArray, List.getElem_cons_zero, List.getElem_cons_succ, List.setIfInBounds_toArray, List.set_cons_zero, List.set_cons_succ]
        --@20
        refine q_skip (by kernel_rfl) ?_
        try simp only [Act.put, Array.getInternal_eq_getElem, List.getElem_toArray, List.getElem_cons_zero, List.getElem_cons_succ, List.setIfInBounds_toArray, List.set_cons_zero, List.set_cons_succ]
        --@21
        refine q_skip (by kernel_rfl) ?_
        try simp only [Act.put, Array.getInternal_eq_getElem, List.getElem_toArray, List.getElem_cons_zero, List.getElem_cons_succ, List.setIfInBounds_toArray, List.set_cons_zero, List.set_cons_succ]
        --@22
        refine q_any (by kernel_rfl) ?_ (fun wq hC => ?_) ?_
        rotate_left
        · (go_simp) <;> (try (with_reducible rfl))
        try simp only [Act.put, Array.getInternal_eq_getElem, List.getElem_toArray, List.getElem_cons_zero, List.getElem_cons_succ, List.setIfInBounds_toArray, List.set_cons_zero, List.set_cons_succ]
        --@23
        refine q_any (by kernel_rfl) ?_ (fun wq hC => ?_) ?_
        rotate_left
        · (go_simp) <;> (try (with_reducible rfl))
        try simp only [Act.put, Array.getInternal_eq_getElem, List.getElem_toArray, List.getElem_cons_zero, List.getElem_cons_succ, List.setIfInBounds_toArray, List.set_cons_zero, List.set_cons_succ]
        --@24
        refine q_any (by kernel_rfl) ?_ (fun wq hC => ?_) ?_
        rotate_left
        · (go_simp) <;> (try (with_reducible rfl))
        try simp only [Act.put, Array.getInternal_eq_getElem, List.getElem_toArray, List.getElem_cons_zero, List.getElem_cons_succ, List.setIfInBounds_toArray, List.set_cons_zero, List.set_cons_succ]
        --@25
        refine q_any (by kernel_rfl) ?_ (fun wq hC => ?_) ?_
        rotate_left
        · (go_simp) <;> (try (with_reducible rfl))
        try simp only [Act.put, Array.getInternal_eq_getElem, List.getElem_toArray, List.getElem_cons_zero, List.getElem_cons_succ, List.setIfInBounds_toArray, List.set_cons_zero, List.set_cons_succ]
        --@26
        refine q_load (by kernel_rfl) 28 _ rfl wj.heap.size 0 rfl CX _ (fun wq hC => (F4 wq hC).1) Tryz.underlying28 rfl Z4.out ?_
        try simp only [Act.put, Array.getInternal_eq_getElem, List.getElem_toArray, List.getElem_cons_zero, List.getElem_cons_succ, List.setIfInBounds_toArray, List.set_cons_zero, List.set_cons_succ]
        --@27
        refine q_load (by kernel_rfl) 24 _ rfl (w.heap.size + 1) 0 rfl CB _ (fun wq hC => (F1_b6 wq hC).1) Tryz.underlying24 rfl Z1.out ?_
        try simp only [Act.put, Array.getInternal_eq_getElem, List.getElem_toArray, List.getElem_cons_zero, List.getElem_cons_succ, List.setIfInBounds_toArray, List.set_cons_zero, List.set_cons_succ]
        --@28
        refine q_call (by kernel_rfl) (fun wq hC => old_call hC (G3 wq).out) (fun wq => ?_) ?_
        · go_simp <;> (try (with_reducible rfl))
        try simp only [Act.put, Array.getInternal_eq_getElem, List.getElem_toArray, List.getElem_cons_zero, List.getElem_cons_succ, List.setIfInBounds_toArray, List.set_cons_zero, List.set_cons_succ]
        --@29
        refine q_any (by kernel_rfl) ?_ (fun wq hC => ?_) ?_
        rotate_left
        · (go_simp) <;> (try (with_reducible rfl))
        try simp only [Act.put, Array.getInternal_eq_getElem, List.getElem_toArray, List.getElem_cons_zero, List.getElem_cons_succ, List.setIfInBounds_toArray, List.set_cons_zero, List.set_cons_succ]
        --@30
        refine q_load (by kernel_rfl) 28 _ rfl (wj.heap.size + 1) 0 rfl CY _ (fun wq hC => (F5 wq hC).1) Tryz.underlying28 rfl Z5.out ?_
        try simp only [Act.put, Array.getInternal_eq_getElem, List.getElem_toArray, List.getElem_cons_zero, List.getElem_cons_succ, List.setIfInBounds_toArray, List.set_cons_zero, List.set_cons_succ]
        --@31
        refine q_load (by kernel_rfl) 24 _ rfl (w.heap.size + 1) 0 rfl CB _ (fun wq hC => (F1_b6 wq hC).1) Tryz.underlying24 rfl Z1.out ?_
        try simp only [Act.put, Array.getInternal_eq_getElem, List.getElem_toArray, List.getElem_cons_zero, List.getElem_cons_succ, List.setIfInBounds_toArray, List.set_cons_zero, List.set_cons_succ]
        --@32
        refine q_call (by kernel_rfl) (fun wq hC => old_call hC (G4 wq).out) (fun wq => ?_) ?_
        · go_simp <;> (try (with_reducible rfl))
        try simp only [Act.put, Array.getInternal_eq_getElem, List.getElem_toArray, List.getElem_cons_zero, List.getElem_cons_succ, List.setIfInBounds_toArray, List.set_cons_zero, List.set_cons_succ]
        --@33
        refine q_any (by kernel_rfl) ?_ (fun wq hC => ?_) ?_
        rotate_left
        · (go_simp) <;> (try (with_reducible rfl))
        try simp only [Act.put, Array.getInternal_eq_getElem, List.getElem_toArray, List.getElem_cons_zero, List.getElem_cons_succ, List.setIfInBounds_toArray, List.set_cons_zero, List.set_cons_succ]
        --@34
        refine q_any (by kernel_rfl) ?_ (fun wq hC => ?_) ?_
        rotate_left
        · (go_simp) <;> (try (with_reducible rfl))
        try simp only [Act.put, Array.getInternal_eq_getElem, List.getElem_toArray, List.getElem_cons_zero, List.getElem_cons_succ, List.setIfInBounds_toArray, List.set_cons_zero, List.set_cons_succ]
        --@35
        refine q_any (by kernel_rfl) ?_ (fun wq hC => ?_) ?_
        rotate_left
        · (go_simp) <;> (try (with_reducible rfl))
        try simp only [Act.put, Array.getInternal_eq_getElem, List.getElem_toArray, List.getElem_cons_zero, List.getElem_cons_succ, List.setIfInBounds_toArray, List.set_cons_zero, List.set_cons_succ]
        --@36
        refine q_load (by kernel_rfl) 28 _ rfl wj.heap.size 0 rfl CX _ (fun wq hC => (F4 wq hC).1) Tryz.underlying28 rfl Z4.out ?_
        try simp only [Act.put, Array.getInternal_eq_getElem, List.getElem_toArray, List.getElem_cons_zero, List.getElem_cons_succ, List.setIfInBounds_toArray, List.set_cons_zero, List.set_cons_succ]
        --@37
        refine q_load (by kernel_rfl) 28 _ rfl (wj.heap.size + 1) 0 rfl CY _ (fun wq hC => (F5 wq hC).1) Tryz.underlying28 rfl Z5.out ?_
        try simp only [Act.put, Array.getInternal_eq_getElem, List.getElem_toArray, List.getElem_cons_zero, List.getElem_cons_succ, List.setIfInBounds_toArray, List.set_cons_zero, List.set_cons_succ]
        --@38
        refine q_call (by kernel_rfl) (fun wq hC => old_call hC (G5 wq).out) (fun wq => ?_) ?_
        · go_simp <;> (try (with_reducible rfl))
        try simp only [Act.put, Array.getInternal_eq_getElem, List.getElem_toArray, List.getElem_cons_zero, List.getElem_cons_succ, List.setIfInBounds_toArray, List.set_cons_zero, List.set_cons_succ]
        --@39
        refine q_any (by kernel_rfl) ?_ (fun wq hC => ?_) ?_
        rotate_left
        · (go_simp) <;> (try (with_reducible rfl))
        try simp only [Act.put, Array.getInternal_eq_getElem, List.getElem_toArray, List.getElem_cons_zero, List.getElem_cons_succ, List.setIfInBounds_toArray, List.set_cons_zero, List.set_cons_succ]
        --@40
        refine q_any (by kernel_rfl) ?_ (fun wq hC => ?_) ?_
        rotate_left
        · (go_simp) <;> (try (with_reducible rfl))
        try simp only [Act.put, Array.getInternal_eq_getElem, List.getElem_toArray, List.getElem_cons_zero, List.getElem_cons_succ, List.setIfInBounds_toArray, List.set_cons_zero, List.set_cons_succ]
        --@41
        refine q_any (by kernel_rfl) ?_ (fun wq hC => ?_) ?_
        rotate_left
        · (go_simp) <;> (try (with_reducible rfl))
        try simp only [Act.put, Array.getInternal_eq_getElem, List.getElem_toArray, List.getElem_cons_zero, List.getElem_cons_succ, List.setIfInBounds_toArray, List.set_cons_zero, List.set_cons_succ]
        --@42
        refine q_load (by kernel_rfl) 28 _ rfl B7 0 rfl CP _ (fun wq hC => (F3_b6 wq hC).1) Tryz.underlying28 rfl Z3.out ?_
        try simp only [Act.put, Array.getInternal_eq_getElem, List.getElem_toArray, List.getElem_cons_zero, List.getElem_cons_succ, List.setIfInBounds_toArray, List.set_cons_zero, List.set_cons_succ]
        --@43
        refine q_load (by kernel_rfl) 28 _ rfl wj.heap.size 0 rfl CX _ (fun wq hC => (F4 wq hC).1) Tryz.underlying28 rfl Z4.out ?_
        try simp only [Act.put, Array.getInternal_eq_getElem, List.getElem_toArray, List.getElem_cons_zero, List.getElem_cons_succ, List.setIfInBounds_toArray, List.set_cons_zero, List.set_cons_succ]
        --@44
        refine q_call (by kernel_rfl) (fun wq hC => old_call hC (G6 wq).out) (fun wq => ?_) ?_
        · go_simp <;> (try (with_reducible rfl))
        try simp only [Act.put, Array.getInternal_eq_getElem, List.getElem_toArray, List.getElem_cons_zero, List.getElem_cons_succ, List.setIfInBounds_toArray, List.set_cons_zero, List.set_cons_succ]
        --@45
        refine q_any (by kernel_rfl) ?_ (fun wq hC => ?_) ?_
        rotate_left
        · (go_simp) <;> (try (with_reducible rfl))
        try simp only [Act.put, Array.getInternal_eq_getElem, List.getElem_toArray, List.getElem_cons_zero, List.getElem_cons_succ, List.setIfInBounds_toArray, List.set_cons_zero, List.set_cons_succ]
        --@46
        refine q_any (by kernel_rfl) ?_ (fun wq hC => ?_) ?_
        rotate_left
        · (go_simp) <;> (try (with_reducible rfl))
        try simp only [Act.put, Array.getInternal_eq_getElem, List.getElem_toArray, List.getElem_cons_zero, List.getElem_cons_succ, List.setIfInBounds_toArray, List.set_cons_zero, List.set_cons_succ]
        refine q_nil ?_
        intro wm kwm
        go_wp2_with fail
        go_meet
        exact ⟨rfl, kwm⟩
      | false =>
        have g1 := HNO.out h3
        rw [h3] at G3
        rw [g1] at G4
        have HVV : (hasB p b != hasB p b) = false := by simp
        generalize hasB p b = v at *
        clear h3 g1
        skip
        refine q_region (by kernel_rfl) (by kernel_rfl) kwl ?_
        --@0
        refine q_any (by kernel_rfl) ?_ (fun wq hC => ?_) ?_
        rotate_left
        · (go_simp) <;> (try (with_reducible rfl))
        try simp only [Act.put, Array.getInternal_eq_getElem, List.getElem_toArray, List.getElem_cons_zero, List.getElem_cons_succ, List.setIfInBounds_toArray, List.set_cons_zero, List.set_cons_succ]
        --@1
        refine q_any (by kernel_rfl) ?_ (fun wq hC => ?_) ?_
        rotate_left
        · (go_simp) <;> (try (with_reducible rfl))
        try simp only [Act.put, Array.getInternal_eq_getElem, List.getElem_toArray, List.getElem_cons_zero, List.getElem_cons_succ, List.setIfInBounds_toArray, List.set_cons_zero, List.set_cons_succ]
        --@2
        refine q_any (by kernel_rfl) ?_ (fun wq hC => ?_) ?_
        rotate_left
        · (go_simp) <;> (try (with_reducible rfl))
        try simp only [Act.put, Array.getInternal_eq_getElem, List.getElem_toArray, List.getElem_cons_zero, List.getElem_cons_succ, List.setIfInBounds_toArray, List.set_cons_zero, List.set_cons_succ]
        --@3
        refine q_load (by kernel_rfl) 28 _ rfl wj.heap.size 0 rfl CX _ (fun wq hC => (F4 wq hC).1) Tryz.underlying28 rfl Z4.out ?_
        try simp only [Act.put, Array.getInternal_eq_getElem, List.getElem_toArray, List.getElem_cons_zero, List.getElem_cons_succ, List.setIfInBounds_toArray, List.set_cons_zero, List.set_cons_succ]
        --@4
        refine q_load (by kernel_rfl) 24 _ rfl w.heap.size 0 rfl CA _ (fun wq hC => (F0_b6 wq hC).1) Tryz.underlying24 rfl Z0.out ?_
        try simp only [Act.put, Array.getInternal_eq_getElem, List.getElem_toArray, List.getElem_cons_zero, List.getElem_cons_succ, List.setIfInBounds_toArray, List.set_cons_zero, List.set_cons_succ]
        --@5
        refine q_call (by kernel_rfl) (fun wq hC => old_call hC (G1 wq).out) (fun wq => ?_) ?_
        · go_simp <;> (try (with_reducible rfl))
        try simp only [Act.put, Array.getInternal_eq_getElem, List.getElem_toArray, List.getElem_cons_zero, List.getElem_cons_succ, List.setIfInBounds_toArray, List.set_cons_zero, List.set_cons_succ]
        --@6
        refine q_load (by kernel_rfl) 28 _ rfl (wj.heap.size + 1) 0 rfl CY _ (fun wq hC => (F5 wq hC).1) Tryz.underlying28 rfl Z5.out ?_
        try simp only [Act.put, Array.getInternal_eq_getElem, List.getElem_toArray, List.getElem_cons_zero, List.getElem_cons_succ, List.setIfInBounds_toArray, List.set_cons_zero, List.set_cons_succ]
        --@7
        refine q_load (by kernel_rfl) 24 _ rfl w.heap.size 0 rfl CA _ (fun wq hC => (F0_b6 wq hC).1) Tryz.underlying24 rfl Z0.out ?_
        try simp only [Act.put, Array.getInternal_eq_getElem, List.getElem_toArray, List.getElem_cons_zero, List.getElem_cons_succ, List.setIfInBounds_toArray, List.set_cons_zero, List.set_cons_succ]
        --@8
        refine q_call (by kernel_rfl) (fun wq hC => old_call hC (G2 wq).out) (fun wq => ?_) ?_
        · go_simp <;> (try (with_reducible rfl))
        try simp only [Act.put, Array.getInternal_eq_getElem, List.getElem_toArray, List.getElem_cons_zero, List.getElem_cons_succ, List.setIfInBounds_toArray, List.set_cons_zero, List.set_cons_succ]
        --@9
        refine q_any (by kernel_rfl) ?_ (fun wq hC => ?_) ?_
        rotate_left
        · (have hN := HXO; go_simp) <;> (try (with_reducible rfl))
        try simp only [Act.put, Array.getInternal_eq_getElem, List.getElem_toArray, List.getElem_cons_zero, List.getElem_cons_succ, List.setIfInBounds_toArray, List.set_cons_zero, List.set_cons_succ]
        --@10
        refine q_any (by kernel_rfl) ?_ (fun wq hC => ?_) ?_
        rotate_left
        · (go_simp) <;> (try (with_reducible rfl))
        try simp only [Act.put, Array.getInternal_eq_getElem, List.getElem_toArray, List.getElem_cons_zero, List.getElem_cons_succ, List.setIfInBounds_toArray, List.set_cons_zero, List.set_cons_succ]
        --@11
        refine q_any (by kernel_rfl) ?_ (fun wq hC => ?_) ?_
        rotate_left
        · (go_simp) <;> (try (with_reducible rfl))
        try simp only [Act.put, Array.getInternal_eq_getElem, List.getElem_toArray, List.getElem_cons_zero, List.getElem_cons_succ, List.setIfInBounds_toArray, List.set_cons_zero, List.set_cons_succ]
        --@12
        refine q_load (by kernel_rfl) 28 _ rfl B7 0 rfl CP _ (fun wq hC => (F3_b6 wq hC).1) Tryz.underlying28 rfl Z3.out ?_
        try simp only [Act.put, Array.getInternal_eq_getElem, List.getElem_toArray, List.getElem_cons_zero, List.getElem_cons_succ, List.setIfInBounds_toArray, List.set_cons_zero, List.set_cons_succ]
        --@13
        refine q_load (by kernel_rfl) 24 _ rfl (w.heap.size + 1) 0 rfl CB _ (fun wq hC => (F1_b6 wq hC).1) Tryz.underlying24 rfl Z1.out ?_
        try simp only [Act.put, Array.getInternal_eq_getElem, List.getElem_toArray, List.getElem_cons_zero, List.getElem_cons_succ, List.setIfInBounds_toArray, List.set_cons_zero, List.set_cons_succ]
        --@14
        refine q_call (by kernel_rfl) (fun wq hC => old_call hC (H6 wq).out) (fun wq => ?_) ?_
        · go_simp <;> (try (with_reducible rfl))
        try simp only [Act.put, Array.getInternal_eq_getElem, List.getElem_toArray, List.getElem_cons_zero, List.getElem_cons_succ, List.setIfInBounds_toArray, List.set_cons_zero, List.set_cons_succ]
        --@15
        refine q_load (by kernel_rfl) 28 _ rfl wj.heap.size 0 rfl CX _ (fun wq hC => (F4 wq hC).1) Tryz.underlying28 rfl Z4.out ?_
        try simp only [Act.put, Array.getInternal_eq_getElem, List.getElem_toArray, List.getElem_cons_zero, List.getElem_cons_succ, List.setIfInBounds_toArray, List.set_cons_zero, List.set_cons_succ]
        --@16
        refine q_load (by kernel_rfl) 24 _ rfl (w.heap.size + 1) 0 rfl CB _ (fun wq hC => (F1_b6 wq hC).1) Tryz.underlying24 rfl Z1.out ?_
        try simp only [Act.put, Array.getInternal_eq_getElem, List.getElem_toArray, List.getElem_cons_zero, List.getElem_cons_succ, List.setIfInBounds_toArray, List.set_cons_zero, List.set_cons_succ]
        --@17
        refine q_call (by kernel_rfl) (fun wq hC => old_call hC (G3 wq).out) (fun wq => ?_) ?_
        · go_simp <;> (try (with_reducible rfl))
        try simp only [Act.put, Array.getInternal_eq_getElem, List.getElem_toArray, List.getElem_cons_zero, List.getElem_cons_succ, List.setIfInBounds_toArray, List.set_cons_zero, List.set_cons_succ]
        --@18
        refine q_any (by kernel_rfl) ?_ (fun wq hC => ?_) ?_
        rotate_left
        · (go_simp) <;> (try (with_reducible rfl))
        try simp only [Act.put, Array.getInternal_eq_getElem, List.getElem_toArray, List.getElem_cons_zero, List.getElem_cons_succ, List.setIfInBounds_toArray, List.set_cons_zero, List.set_cons_succ]
        --@19
        refine q_load (by kernel_rfl) 28 _ rfl (wj.heap.size + 1) 0 rfl CY _ (fun wq hC => (F5 wq hC).1) Tryz.underlying28 rfl Z5.out ?_
        try simp only [Act.put, Array.getInternal_eq_getElem, List.getElem_toArray, List.getElem_cons_zero, List.getElem_cons_succ, List.setIfInBounds_toArray, List.set_cons_zero, List.set_cons_succ]
        --@20
        refine q_load (by kernel_rfl) 24 _ rfl (w.heap.size + 1) 0 rfl CB _ (fun wq hC => (F1_b6 wq hC).1) Tryz.underlying24 rfl Z1.out ?_
        try simp only [Act.put, Array.getInternal_eq_getElem, List.getElem_toArray, List.getElem_cons_zero, List.getElem_cons_succ, List.setIfInBounds_toArray, List.set_cons_zero, List.set_cons_succ]
        --@21
        refine q_call (by kernel_rfl) (fun wq hC => old_call hC (G4 wq).out) (fun wq => ?_) ?_
        · go_simp <;> (try (with_reducible rfl))
        try simp only [Act.put, Array.getInternal_eq_getElem, List.getElem_toArray, List.getElem_cons_zero, List.getElem_cons_succ, List.setIfInBounds_toArray, List.set_cons_zero, List.set_cons_succ]
        --@22
        refine q_any (by kernel_rfl) ?_ (fun wq hC => ?_) ?_
        rotate_left
        · (go_simp) <;> (try (with_reducible rfl))
        try simp only [Act.put, Array.getInternal_eq_getElem, List.getElem_toArray, List.getElem_cons_zero, List.getElem_cons_succ, List.setIfInBounds_toArray, List.set_cons_zero, List.set_cons_succ]
        --@23
        refine q_any (by kernel_rfl) ?_ (fun wq hC => ?_) ?_
        rotate_left
        · (have hN := HVV; go_simp) <;> (try (with_reducible rfl))
        try simp only [Act.put, Array.getInternal_eq_getElem, List.getElem_toArray, List.getElem_cons_zero, List.getElem_cons_succ, List.setIfInBounds_toArray, List.set_cons_zero, List.set_cons_succ]
        --@24
        refine q_any (by kernel_rfl) ?_ (fun wq hC => ?_) ?_
        rotate_left
        · (go_simp) <;> (try (with_reducible rfl))
        try simp only [Act.put, Array.getInternal_eq_getElem, List.getElem_toArray, List.getElem_cons_zero, List.getElem_cons_succ, List.setIfInBounds_toArray, List.set_cons_zero, List.set_cons_succ]
        --@25
        refine q_any (by kernel_rfl) ?_ (fun wq hC => ?_) ?_
        rotate_left
        · (go_simp) <;> (try (with_reducible rfl))
        try simp only [Act.put, Array.getInternal_eq_getElem, List.getElem_toArray, List.getElem_cons_zero, List.getElem_cons_succ, List.setIfInBounds_toArray, List.set_cons_zero, List.set_cons_succ]
        --@26
        refine q_load (by kernel_rfl) 28 _ rfl wj.heap.size 0 rfl CX _ (fun wq hC => (F4 wq hC).1) Tryz.underlying28 rfl Z4.out ?_
        try simp only [Act.put, Array.getInternal_eq_getElem, List.getElem_toArray, List.getElem_cons_zero, List.getElem_cons_succ, List.setIfInBounds_toArray, List.set_cons_zero, List.set_cons_succ]
        --@27
        refine q_load (by kernel_rfl) 24 _ rfl (w.heap.size + 1) 0 rfl CB _ (fun wq hC => (F1_b6 wq hC).1) Tryz.underlying24 rfl Z1.out ?_
        try simp only [Act.put, Array.getInternal_eq_getElem, List.getElem_toArray, List.getElem_cons_zero, List.getElem_cons_succ, List.setIfInBounds_toArray, List.set_cons_zero, List.set_cons_succ]
        --@28
        refine q_call (by kernel_rfl) (fun wq hC => old_call hC (G3 wq).out) (fun wq => ?_) ?_
        · go_simp <;> (try (with_reducible rfl))
        try simp only [Act.put, Array.getInternal_eq_getElem, List.getElem_toArray, List.getElem_cons_zero, List.getElem_cons_succ, List.setIfInBounds_toArray, List.set_cons_zero, List.set_cons_succ]
        --@29
        refine q_any (by kernel_rfl) ?_ (fun wq hC => ?_) ?_
        rotate_left
        · (go_simp) <;> (try (with_reducible rfl))
        try simp only [Act.put, Array.getInternal_eq_getElem, List.getElem_toArray, List.getElem_cons_zero, List.getElem_cons_succ, List.setIfInBounds_toArray, List.set_cons_zero, List.set_cons_succ]
        --@30
        refine q_skip (by kernel_rfl) ?_
        try simp only [Act.put, Array.getInternal_eq_getElem, List.getElem_toArray, List.getElem_cons_zero, List.getElem_cons_succ, List.setIfInBounds_toArray, List.set_cons_zero, List.set_cons_succ]
        --@31
        refine q_skip (by kernel_rfl) ?_
        try simp only [Act.put, Array.getInternal_eq_getElem, List.getElem_toArray, List.getElem_cons_zero, List.getElem_cons_succ, List.setIfInBounds_toArray, List.set_cons_zero, List.set_cons_succ]
        --@32
        refine q_skip (by kernel_rfl) ?_
        try simp only [Act.put, Array.getInternal_eq_getElem, List.getElem_toArray, List.getElem_cons_zero, List.getElem_cons_succ, List.setIfInBounds_toArray, List.set_cons_zero, List.set_cons_succ]
        --@33
        refine q_any (by kernel_rfl) ?_ (fun wq hC => ?_) ?_
        rotate_left
        · (go_simp) <;> (try (with_reducible rfl))
        try simp only [Act.put, Array.getInternal_eq_getElem, List.getElem_toArray, List.getElem_cons_zero, List.getElem_cons_succ, List.setIfInBounds_toArray, List.set_cons_zero, List.set_cons_succ]
        --@34
        refine q_any (by kernel_rfl) ?_ (fun wq hC => ?_) ?_
        rotate_left
        · (go_simp) <;> (try (with_reducible rfl))
        try simp only [Act.put, Array.getInternal_eq_getElem, List.getElem_toArray, List.getElem_cons_zero, List.getElem_cons_succ, List.setIfInBounds_toArray, List.set_cons_zero, List.set_cons_succ]
        --@35
        refine q_any (by kernel_rfl) ?_ (fun wq hC => ?_) ?_
        rotate_left
        · (go_simp) <;> (try (with_reducible rfl))
        try simp only [Act.put, Array.getInternal_eq_getElem, List.getElem_toArray, List.getElem_cons_zero, List.getElem_cons_succ, List.setIfInBounds_toArray, List.set_cons_zero, List.set_cons_succ]
        --@36
        refine q_load (by kernel_rfl) 28 _ rfl wj.heap.size 0 rfl CX _ (fun wq hC => (F4 wq hC).1) Tryz.underlying28 rfl Z4.out ?_
        try simp only [Act.put, Array.getInternal_eq_getElem, List.getElem_toArray, List.getElem_cons_zero, List.getElem_cons_succ, List.setIfInBounds_toArray, List.set_cons_zero, List.set_cons_succ]
        --@37
        refine q_load (by kernel_rfl) 28 _ rfl (wj.heap.size + 1) 0 rfl CY _ (fun wq hC => (F5 wq hC).1) Tryz.underlying28 rfl Z5.out ?_
        try simp only [Act.put, Array.getInternal_eq_getElem, List.getElem_toArray, List.getElem_cons_zero, List.getElem_cons_succ, List.setIfInBounds_toArray, List.set_cons_zero, List.set_cons_succ]
        --@38
        refine q_call (by kernel_rfl) (fun wq hC => old_call hC (G5 wq).out) (fun wq => ?_) ?_
        · go_simp <;> (try (with_reducible rfl))
        try simp only [Act.put, Array.getInternal_eq_getElem, List.getElem_toArray, List.getElem_cons_zero, List.getElem_cons_succ, List.setIfInBounds_toArray, List.set_cons_zero, List.set_cons_succ]
        --@39
        refine q_any (by kernel_rfl) ?_ (fun wq hC => ?_) ?_
        rotate_left
        · (go_simp) <;> (try (with_reducible rfl))
        try simp only [Act.put, Array.getInternal_eq_getElem, List.getElem_toArray, List.getElem_cons_zero, List.getElem_cons_succ, List.setIfInBounds_toArray, List.set_cons_zero, List.set_cons_succ]
        --@40
        refine q_any (by kernel_rfl) ?_ (fun wq hC => ?_) ?_
        rotate_left
        · (go_simp) <;> (try (with_reducible rfl))
        try simp only [Act.put, Array.getInternal_eq_getElem, List.getElem_toArray, List.getElem_cons_zero, List.getElem_cons_succ, List.setIfInBounds_toArray, List.set_cons_zero, List.set_cons_succ]
        --@41
        refine q_any (by kernel_rfl) ?_ (fun wq hC => ?_) ?_
        rotate_left
        · (go_simp) <;> (try (with_reducible rfl))
        try simp only [Act.put, Array.getInternal_eq_getElem, List.getElem_toArray, List.getElem_cons_zero, List.getElem_cons_succ, List.setIfInBounds_toArray, List.set_cons_zero, List.set_cons_succ]
        --@42
        refine q_load (by kernel_rfl) 28 _ rfl B7 0 rfl CP _ (fun wq hC => (F3_b6 wq hC).1) Tryz.underlying28 rfl Z3.out ?_
        try simp only [Act.put, Array.getInternal_eq_getElem, List.getElem_toArray, List.getElem_cons_zero, List.getElem_cons_succ, List.setIfInBounds_toArray, List.set_cons_zero, List.set_cons_succ]
        --@43
        refine q_load (by kernel_rfl) 28 _ rfl wj.heap.size 0 rfl CX _ (fun wq hC => (F4 wq hC).1) Tryz.underlying28 rfl Z4.out ?_
        try simp only [Act.put, Array.getInternal_eq_getElem, List.getElem_toArray, List.getElem_cons_zero, List.getElem_cons_succ, List.setIfInBounds_toArray, List.set_cons_zero, List.set_cons_succ]
        --@44
        refine q_call (by kernel_rfl) (fun wq hC => old_call hC (G6 wq).out) (fun wq => ?_) ?_
        · go_simp <;> (try (with_reducible rfl))
        try simp only [Act.put, Array.getInternal_eq_getElem, List.getElem_toArray, List.getElem_cons_zero, List.getElem_cons_succ, List.setIfInBounds_toArray, List.set_cons_zero, List.set_cons_succ]
        --@45
        refine q_any (by kernel_rfl) ?_ (fun wq hC => ?_) ?_
        rotate_left
        · (go_simp) <;> (try (with_reducible rfl))
        try simp only [Act.put, Array.getInternal_eq_getElem, List.getElem_toArray, List.getElem_cons_zero, List.getElem_cons_succ, List.setIfInBounds_toArray, List.set_cons_zero, List.set_cons_succ]
        --@46
        refine q_any (by kernel_rfl) ?_ (fun wq hC => ?_) ?_
        rotate_left
        · (go_simp) <;> (try (with_reducible rfl))
        try simp only [Act.put, Array.getInternal_eq_getElem, List.getElem_toArray, List.getElem_cons_zero, List.getElem_cons_succ, List.setIfInBounds_toArray, List.set_cons_zero, List.set_cons_succ]
        refine q_nil ?_
        intro wm kwm
        go_wp2_with fail
        go_meet
        exact ⟨rfl, kwm⟩
    case rest =>
    obtain ⟨rfl, hcut⟩ := hcut
    obtain ⟨ws0, hws⟩ : ∃ v, v = wc := ⟨_, rfl⟩
    rw [← hws] at hcut ⊢
    clear hws
    go_wp2_with ((with_reducible show wpList _ _ _ (⟨some 179, _, _, _, _, _⟩ :: _) _ _); refine x_list hcut ?_)
    --@0
    refine x_load (by kernel_rfl) 28 _ rfl B7 0 rfl CP _ (fun wq hC => (F3_b6 wq hC).1) Tryz.underlying28 rfl Z3.out ?_
    try simp only [Act.put, Array.getInternal_eq_getElem, List.getElem_toArray, List.getElem_cons_zero, List.getElem_cons_succ, List.setIfInBounds_toArray, List.set_cons_zero, List.set_cons_succ]
    --@1
    refine x_load (by kernel_rfl) 28 _ rfl wj.heap.size 0 rfl CX _ (fun wq hC => (F4 wq hC).1) Tryz.underlying28 rfl Z4.out ?_
    try simp only [Act.put, Array.getInternal_eq_getElem, List.getElem_toArray, List.getElem_cons_zero, List.getElem_cons_succ, List.setIfInBounds_toArray, List.set_cons_zero, List.set_cons_succ]
    --@2
    refine x_call (by kernel_rfl) (fun wq hC => old_call hC (G7 wq).out) (fun wq => ?_) ?_
    · go_simp <;> (try (with_reducible rfl))
    try simp only [Act.put, Array.getInternal_eq_getElem, List.getElem_toArray, List.getElem_cons_zero, List.getElem_cons_succ, List.setIfInBounds_toArray, List.set_cons_zero, List.set_cons_succ]
    --@3
    refine x_any (by kernel_rfl) ?_ (fun wq hC => ?_) ?_
    rotate_left
    · (go_simp) <;> (try (with_reducible rfl))
    try simp only [Act.put, Array.getInternal_eq_getElem, List.getElem_toArray, List.getElem_cons_zero, List.getElem_cons_succ, List.setIfInBounds_toArray, List.set_cons_zero, List.set_cons_succ]
    --@4
    refine x_load (by kernel_rfl) 28 _ rfl B7 0 rfl CP _ (fun wq hC => (F3_b6 wq hC).1) Tryz.underlying28 rfl Z3.out ?_
    try simp only [Act.put, Array.getInternal_eq_getElem, List.getElem_toArray, List.getElem_cons_zero, List.getElem_cons_succ, List.setIfInBounds_toArray, List.set_cons_zero, List.set_cons_succ]
    --@5
    refine x_load (by kernel_rfl) 28 _ rfl (wj.heap.size + 1) 0 rfl CY _ (fun wq hC => (F5 wq hC).1) Tryz.underlying28 rfl Z5.out ?_
    try simp only [Act.put, Array.getInternal_eq_getElem, List.getElem_toArray, List.getElem_cons_zero, List.getElem_cons_succ, List.setIfInBounds_toArray, List.set_cons_zero, List.set_cons_succ]
    --@6
    refine x_call (by kernel_rfl) (fun wq hC => old_call hC (G8 wq).out) (fun wq => ?_) ?_
    · go_simp <;> (try (with_reducible rfl))
    try simp only [Act.put, Array.getInternal_eq_getElem, List.getElem_toArray, List.getElem_cons_zero, List.getElem_cons_succ, List.setIfInBounds_toArray, List.set_cons_zero, List.set_cons_succ]
    --@7
    refine x_any (by kernel_rfl) ?_ (fun wq hC => ?_) ?_
    rotate_left
    · (go_simp) <;> (try (with_reducible rfl))
    try simp only [Act.put, Array.getInternal_eq_getElem, List.getElem_toArray, List.getElem_cons_zero, List.getElem_cons_succ, List.setIfInBounds_toArray, List.set_cons_zero, List.set_cons_succ]
    --@8
    refine x_any (by kernel_rfl) ?_ (fun wq hC => ?_) ?_
    rotate_left
    · (go_simp) <;> (try (with_reducible rfl))
    try simp only [Act.put, Array.getInternal_eq_getElem, List.getElem_toArray, List.getElem_cons_zero, List.getElem_cons_succ, List.setIfInBounds_toArray, List.set_cons_zero, List.set_cons_succ]
    --@9
    refine x_load (by kernel_rfl) 28 _ rfl wj.heap.size 0 rfl CX _ (fun wq hC => (F4 wq hC).1) Tryz.underlying28 rfl Z4.out ?_
    try simp only [Act.put, Array.getInternal_eq_getElem, List.getElem_toArray, List.getElem_cons_zero, List.getElem_cons_succ, List.setIfInBounds_toArray, List.set_cons_zero, List.set_cons_succ]
    --@10
    refine x_load (by kernel_rfl) 28 _ rfl (wj.heap.size + 1) 0 rfl CY _ (fun wq hC => (F5 wq hC).1) Tryz.underlying28 rfl Z5.out ?_
    try simp only [Act.put, Array.getInternal_eq_getElem, List.getElem_toArray, List.getElem_cons_zero, List.getElem_cons_succ, List.setIfInBounds_toArray, List.set_cons_zero, List.set_cons_succ]
    --@11
    refine x_call (by kernel_rfl) (fun wq hC => old_call hC (G9 wq).out) (fun wq => ?_) ?_
    · go_simp <;> (try (with_reducible rfl))
    try simp only [Act.put, Array.getInternal_eq_getElem, List.getElem_toArray, List.getElem_cons_zero, List.getElem_cons_succ, List.setIfInBounds_toArray, List.set_cons_zero, List.set_cons_succ]
    --@12
    refine x_any (by kernel_rfl) ?_ (fun wq hC => ?_) ?_
    rotate_left
    · (go_simp) <;> (try (with_reducible rfl))
    try simp only [Act.put, Array.getInternal_eq_getElem, List.getElem_toArray, List.getElem_cons_zero, List.getElem_cons_succ, List.setIfInBounds_toArray, List.set_cons_zero, List.set_cons_succ]
    --@13
    refine x_any (by kernel_rfl) ?_ (fun wq hC => ?_) ?_
    rotate_left
    · (go_simp) <;> (try (with_reducible rfl))
    try simp only [Act.put, Array.getInternal_eq_getElem, List.getElem_toArray, List.getElem_cons_zero, List.getElem_cons_succ, List.setIfInBounds_toArray, List.set_cons_zero, List.set_cons_succ]
    --@14
    refine x_any (by kernel_rfl) ?_ (fun wq hC => ?_) ?_
    rotate_left
    · (go_simp) <;> (try (with_reducible rfl))
    try simp only [Act.put, Array.getInternal_eq_getElem, List.getElem_toArray, List.getElem_cons_zero, List.getElem_cons_succ, List.setIfInBounds_toArray, List.set_cons_zero, List.set_cons_succ]
    --@15
    refine x_load (by kernel_rfl) 28 _ rfl (wj.heap.size + 1) 0 rfl CY _ (fun wq hC => (F5 wq hC).1) Tryz.underlying28 rfl Z5.out ?_
    try simp only [Act.put, Array.getInternal_eq_getElem, List.getElem_toArray, List.getElem_cons_zero, List.getElem_cons_succ, List.setIfInBounds_toArray, List.set_cons_zero, List.set_cons_succ]
    --@16
    refine x_load (by kernel_rfl) 28 _ rfl wj.heap.size 0 rfl CX _ (fun wq hC => (F4 wq hC).1) Tryz.underlying28 rfl Z4.out ?_
    try simp only [Act.put, Array.getInternal_eq_getElem, List.getElem_toArray, List.getElem_cons_zero, List.getElem_cons_succ, List.setIfInBounds_toArray, List.set_cons_zero, List.set_cons_succ]
    --@17
    refine x_call (by kernel_rfl) (fun wq hC => old_call hC (G10 wq).out) (fun wq => ?_) ?_
    · go_simp <;> (try (with_reducible rfl))
    try simp only [Act.put, Array.getInternal_eq_getElem, List.getElem_toArray, List.getElem_cons_zero, List.getElem_cons_succ, List.setIfInBounds_toArray, List.set_cons_zero, List.set_cons_succ]
    --@18
    refine x_any (by kernel_rfl) ?_ (fun wq hC => ?_) ?_
    rotate_left
    · (go_simp) <;> (try (with_reducible rfl))
    try simp only [Act.put, Array.getInternal_eq_getElem, List.getElem_toArray, List.getElem_cons_zero, List.getElem_cons_succ, List.setIfInBounds_toArray, List.set_cons_zero, List.set_cons_succ]
    --@19
    refine x_any (by kernel_rfl) ?_ (fun wq hC => ?_) ?_
    rotate_left
    · (go_simp) <;> (try (with_reducible rfl))
    try simp only [Act.put, Array.getInternal_eq_getElem, List.getElem_toArray, List.getElem_cons_zero, List.getElem_cons_succ, List.setIfInBounds_toArray, List.set_cons_zero, List.set_cons_succ]
    --@20
    refine x_any (by kernel_rfl) ?_ (fun wq hC => ?_) ?_
    rotate_left
    · (go_simp) <;> (try (with_reducible rfl))
    try simp only [Act.put, Array.getInternal_eq_getElem, List.getElem_toArray, List.getElem_cons_zero, List.getElem_cons_succ, List.setIfInBounds_toArray, List.set_cons_zero, List.set_cons_succ]
    --@21
    refine x_call (by kernel_rfl) (fun wq hC => old_call hC (HWK wq (HEV wq hC)).out) (fun wq => ?_) ?_
    · go_simp <;> (try (with_reducible rfl))
    try simp only [Act.put, Array.getInternal_eq_getElem, List.getElem_toArray, List.getElem_cons_zero, List.getElem_cons_succ, List.setIfInBounds_toArray, List.set_cons_zero, List.set_cons_succ]
    --@22
    refine x_any (by kernel_rfl) ?_ (fun wq hC => ?_) ?_
    rotate_left
    · (go_simp) <;> (try (with_reducible rfl))
    try simp only [Act.put, Array.getInternal_eq_getElem, List.getElem_toArray, List.getElem_cons_zero, List.getElem_cons_succ, List.setIfInBounds_toArray, List.set_cons_zero, List.set_cons_succ]
    --@23
    refine x_any (by kernel_rfl) ?_ (fun wq hC => ?_) ?_
    rotate_left
    · (go_simp) <;> (try (with_reducible rfl))
    try simp only [Act.put, Array.getInternal_eq_getElem, List.getElem_toArray, List.getElem_cons_zero, List.getElem_cons_succ, List.setIfInBounds_toArray, List.set_cons_zero, List.set_cons_succ]
    refine x_nil ?_
    intro wz kwz
    have KZ : Hid (∀ S, Keeps S w wz) := Lib.hid (fun S => (Kb6.out S).trans (kwz.all S))
    clear kwz
    go_wp2
    try rw [Exit.noGoto_ret]
    go_ret
    exact ⟨rfl, KZ.out⟩
end
end Go.Proofs.YtgcdhfpbmcfedaaGreatDoor.pf
