/-
  packet.readRest.
-/
import Derived.Test.YtidengmcbppcoaaPkV
set_option linter.unusedVariables false
set_option linter.unusedSimpArgs false
namespace Go.Proofs.Ytidengmcbppcoaa.pk
open Go.RowKit Go.Proofs.Ytidengmcbppcoaa.oc Go.Proofs.Ytidengmcbppcoaa.mz Go.Proofs.Ytidengmcbppcoaa.pf Go.Proofs.Ytidengmcbppcoaa.wh Go.Proofs.Ytidengmcbppcoaa.qk Go.Proofs.Ytidengmcbppcoaa.bys
theorem rd_put {w w1 : World} {B G : Nat} {A : Option Addr} {xs : List Value} (h : Rd w B A xs) (k : Keeps (· = G) w w1) (hG : B ≤ G) : Rd w1 B A xs := fun j v hv => by
  obtain ⟨b, o, e, hb, hc⟩ := h j v hv
  exact ⟨b, o, e, hb, Keeps.cell k hc (by omega)⟩
section
variable (w : World)
set_option maxRecDepth 100000 in
set_option maxHeartbeats 2000000 in
theorem rrt_a (h : Hd) (hw : h.Wf) (g o m c B : Nat) (l : List Nat) (hl : l.length = m) (hm : m ≤ 140737480000000) (hc : m ≤ c) (hc9 : c ≤ 9223372036854775807) (hs : Small l) (hr : Rd w B (some ⟨g, o, none⟩) (by_ l)) (hB : B ≤ w.heap.size) (hp : h.pr = 6) (hk : m < 20) :
    Calls Try.prog 52 #[hvv h nul, .slice (some ⟨g, o, none⟩) m c] w fun e w' => RK w w' e (hz, 161) := by
  unfold RK
  dsimp only
  obtain ⟨w2, hw2, k2, bG, bZ, s2⟩ := box2 w (hcs h nul) zhd 29 29
  dsimp only [zhd] at hw2
  obtain ⟨w3, hw3⟩ : ∃ w3, w3 = w2.drew := ⟨_, rfl⟩
  have k23 : ∀ S, Keeps S w2 w3 := fun S => by rw [hw3]; exact (Keeps.refl S w2).drew
  have k3 : ∀ S, Keeps S w w3 := fun S => (k2 S).trans (k23 S)
  have b3G := Blk.keeps bG (k23 (fun _ => False)) (fun z => z)
  have b3Z := Blk.keeps bZ (k23 (fun _ => False)) (fun z => z)
  have s3 : w3.heap.size = w.heap.size + 2 := by rw [hw3]; exact s2
  have hr3 := rd_old hr (k3 (fun _ => False))
  have HPR : Hid (∀ wq, Keeps (fun _ => False) w2 wq → wq.cell? ⟨w.heap.size, 34, none⟩ = some (.int .u8 (h.pr : Int))) := Lib.hid (fun wq kq => (HF.of_blk hw (Blk.keeps bG kq (fun z => z))).pr)
  have HM : ∀ u, Hid (Calls Try.prog 41 #[.int .u8 (h.pr : Int)] u fun e w' => e = .returned (.int .i64 20) ∧ w' = u) := fun u => Lib.hid (by have := pmids_ u h.pr; rw [show mids h.pr = 20 from by rw [hp]; rfl] at this; exact this)
  have HS : ∀ u, Hid (Calls Try.prog 35 #[.int .u8 (h.pr : Int)] u fun e w' => e = .returned (.int .i64 16) ∧ w' = u) := fun u => Lib.hid (by have := psat_ u h.pr; rw [show sat h.pr = 16 from by rw [hp]; rfl] at this; exact this)
  have HZI := Lib.hid zhd_info
  have HZB := Lib.hid zhd_built
  have HZO := Lib.hid (all_oneCell_toArray zhd_one)
  have HWF := Lib.hid hw
  have HW2 := Lib.hid hw2
  have HW3 := Lib.hid hw3
  have HB3 := Lib.hid b3G
  have HZ3 := Lib.hid b3Z
  have K3 := Lib.hid k3
  have S3 := Lib.hid s3
  have HL := Lib.hid (And.intro hl (And.intro hs hB))
  have HR3 := Lib.hid hr3
  obtain ⟨tz, bz, kz⟩ := p_store b3Z (cs := zhd) rfl
  have HTZ := Lib.hid tz
  have HBZ := Lib.hid bz
  have HKZ := Lib.hid (keeps_own k3 kz (by omega))
  clear tz bz kz
  have d1 : (m : Int) < 20 := by omega
  unfold hvv
  clear hw2 k2 bG bZ s2 hw3 k23 k3 b3G b3Z s3 hr3 hr hB hw hs hl hk hp
  generalize hC : hcs h nul = C at *
  go_enter Try.func52, Try.ntmps52
  go_wp2_with fail
  try rw [← HW2.out]
  refine wp_region_held_drew (S := fun w' => w'.cell? ⟨w.heap.size, 34, none⟩ = some (.int .u8 (h.pr : Int))) (by kernel_rfl) (HPR.out _ ((Keeps.refl _ w2).drew)) (fun hHeld => ?_)
  refine wpAnyH_take (i := 0) (v := ?_) rfl (by kernel_rfl) (by kernel_rfl) (by kernel_rfl) (fun _ _ _ h => h) (Or.inl ⟨by kernel_rfl, ?_⟩) (by assumption) ?_
  rotate_left
  · (intro w hSw; (try dsimp only at hSw); go_simp) <;> (try (with_reducible rfl))
  try simp only [Act.put, Array.getInternal_eq_getElem, List.getElem_toArray, List.getElem_cons_zero, List.getElem_cons_succ, List.setIfInBounds_toArray, List.set_cons_zero, List.set_cons_succ]
  refine wpAnyH_take (i := 1) (v := ?_) rfl (by kernel_rfl) (by kernel_rfl) (by kernel_rfl) (fun _ _ _ h => h) (Or.inl ⟨by kernel_rfl, ?_⟩) (by assumption) ?_
  rotate_left
  · (intro w hSw; have hcell := hSw; go_simp) <;> (try (with_reducible rfl))
  try simp only [Act.put, Array.getInternal_eq_getElem, List.getElem_toArray, List.getElem_cons_zero, List.getElem_cons_succ, List.setIfInBounds_toArray, List.set_cons_zero, List.set_cons_succ]
  refine wpAnyH_take (i := 3) (v := ?_) rfl (by kernel_rfl) (by kernel_rfl) (by kernel_rfl) (fun _ _ _ h => h) (Or.inl ⟨by kernel_rfl, ?_⟩) (by assumption) ?_
  rotate_left
  · (intro w hSw; (try dsimp only at hSw); go_simp) <;> (try (with_reducible rfl))
  try simp only [Act.put, Array.getInternal_eq_getElem, List.getElem_toArray, List.getElem_cons_zero, List.getElem_cons_succ, List.setIfInBounds_toArray, List.set_cons_zero, List.set_cons_succ]
  refine wpAnyH_take (i := 4) (v := ?_) rfl (by kernel_rfl) (by kernel_rfl) (by kernel_rfl) (fun _ _ _ h => h) (Or.inl ⟨by kernel_rfl, ?_⟩) (by assumption) ?_
  rotate_left
  · (intro w hSw; have hcell := hSw; go_simp) <;> (try (with_reducible rfl))
  try simp only [Act.put, Array.getInternal_eq_getElem, List.getElem_toArray, List.getElem_cons_zero, List.getElem_cons_succ, List.setIfInBounds_toArray, List.set_cons_zero, List.set_cons_succ]
  refine wpAnyH_ready (rs := [2]) (by kernel_rfl) (by simp) ?_
  refine AllReadyH.cons rfl (fun K hK => ?_) AllReadyH.nil
  (rw [if_pos (by kernel_rfl)]; go_simp; go_at_call 41; refine ((HM _).out).mono ?_; rintro e wx ⟨rfl, h9⟩; subst wx)
  refine hK.out _ _ (HPR.out _ ((Keeps.refl _ w2).drew)) (fun hHeld => ?_)
  clear hK K
  try simp only [Act.put, Array.getInternal_eq_getElem, List.getElem_toArray, List.getElem_cons_zero, List.getElem_cons_succ, List.setIfInBounds_toArray, List.set_cons_zero, List.set_cons_succ]
  refine wpAnyH_ready (rs := [5]) (by kernel_rfl) (by simp) ?_
  refine AllReadyH.cons rfl (fun K hK => ?_) AllReadyH.nil
  (rw [if_pos (by kernel_rfl)]; go_simp; go_at_call 35; refine ((HS _).out).mono ?_; rintro e wx ⟨rfl, h9⟩; subst wx)
  refine hK.out _ _ (HPR.out _ ((Keeps.refl _ w2).drew)) (fun hHeld => ?_)
  clear hK K
  try simp only [Act.put, Array.getInternal_eq_getElem, List.getElem_toArray, List.getElem_cons_zero, List.getElem_cons_succ, List.setIfInBounds_toArray, List.set_cons_zero, List.set_cons_succ]
  refine wpAnyH_take (i := 6) (v := ?_) rfl (by kernel_rfl) (by kernel_rfl) (by kernel_rfl) (fun _ _ _ h => h) (Or.inl ⟨by kernel_rfl, ?_⟩) (by assumption) ?_
  rotate_left
  · (intro w hSw; (try dsimp only at hSw); go_simp) <;> (try (with_reducible rfl))
  try simp only [Act.put, Array.getInternal_eq_getElem, List.getElem_toArray, List.getElem_cons_zero, List.getElem_cons_succ, List.setIfInBounds_toArray, List.set_cons_zero, List.set_cons_succ]
  refine wpAnyH_take (i := 7) (v := ?_) rfl (by kernel_rfl) (by kernel_rfl) (by kernel_rfl) (fun _ _ _ h => h) (Or.inl ⟨by kernel_rfl, ?_⟩) (by assumption) ?_
  rotate_left
  · (intro w hSw; (try dsimp only at hSw); go_simp) <;> (try (with_reducible rfl))
  try simp only [Act.put, Array.getInternal_eq_getElem, List.getElem_toArray, List.getElem_cons_zero, List.getElem_cons_succ, List.setIfInBounds_toArray, List.set_cons_zero, List.set_cons_succ]
  refine wpAnyH_done ?_ ?_ _
  · kernel_rfl
  rw [← HW3.out]
  go_wp2_with (first
    | (refine p_build rfl 29 _ rfl _ rfl _ HZB.out ?_)
    | (refine' wpList_store_mid rfl 29 _ _ rfl (w.heap.size + 1) 0 (zhd).toArray ?hx rfl ?ht HZI.out HZO.out ?_; (case hx => rfl); (case ht => exact HTZ.out)))
  try rw [Exit.noGoto_ret]
  refine bodyPost_ret (Go.Proofs.Ytidengmcbppcoaa.wh.ret_cell (p := 4) (u := 5) (ty := 29) (by kernel_rfl) _ _ _ (w.heap.size + 1) _ _ _ (by rfl) HBZ.out Try.underlying29 rfl HZI.out) rfl ?_
  exact ⟨nul, rfl, By.nil_ HKZ.out⟩
set_option maxRecDepth 100000 in
set_option maxHeartbeats 2000000 in
theorem rru_a (h : Hd) (hw : h.Wf) (g o m c B : Nat) (l : List Nat) (hl : l.length = m) (hm : m ≤ 140737480000000) (hc : m ≤ c) (hc9 : c ≤ 9223372036854775807) (hs : Small l) (hr : Rd w B (some ⟨g, o, none⟩) (by_ l)) (hB : B ≤ w.heap.size) (hp : h.pr = 17) (hk : m < 8) :
    Calls Try.prog 52 #[hvv h nul, .slice (some ⟨g, o, none⟩) m c] w fun e w' => RK w w' e (hz, 161) := by
  unfold RK
  dsimp only
  obtain ⟨w2, hw2, k2, bG, bZ, s2⟩ := box2 w (hcs h nul) zhd 29 29
  dsimp only [zhd] at hw2
  obtain ⟨w3, hw3⟩ : ∃ w3, w3 = w2.drew := ⟨_, rfl⟩
  have k23 : ∀ S, Keeps S w2 w3 := fun S => by rw [hw3]; exact (Keeps.refl S w2).drew
  have k3 : ∀ S, Keeps S w w3 := fun S => (k2 S).trans (k23 S)
  have b3G := Blk.keeps bG (k23 (fun _ => False)) (fun z => z)
  have b3Z := Blk.keeps bZ (k23 (fun _ => False)) (fun z => z)
  have s3 : w3.heap.size = w.heap.size + 2 := by rw [hw3]; exact s2
  have hr3 := rd_old hr (k3 (fun _ => False))
  have HPR : Hid (∀ wq, Keeps (fun _ => False) w2 wq → wq.cell? ⟨w.heap.size, 34, none⟩ = some (.int .u8 (h.pr : Int))) := Lib.hid (fun wq kq => (HF.of_blk hw (Blk.keeps bG kq (fun z => z))).pr)
  have HM : ∀ u, Hid (Calls Try.prog 41 #[.int .u8 (h.pr : Int)] u fun e w' => e = .returned (.int .i64 8) ∧ w' = u) := fun u => Lib.hid (by have := pmids_ u h.pr; rw [show mids h.pr = 8 from by rw [hp]; rfl] at this; exact this)
  have HS : ∀ u, Hid (Calls Try.prog 35 #[.int .u8 (h.pr : Int)] u fun e w' => e = .returned (.int .i64 6) ∧ w' = u) := fun u => Lib.hid (by have := psat_ u h.pr; rw [show sat h.pr = 6 from by rw [hp]; rfl] at this; exact this)
  have HZI := Lib.hid zhd_info
  have HZB := Lib.hid zhd_built
  have HZO := Lib.hid (all_oneCell_toArray zhd_one)
  have HWF := Lib.hid hw
  have HW2 := Lib.hid hw2
  have HW3 := Lib.hid hw3
  have HB3 := Lib.hid b3G
  have HZ3 := Lib.hid b3Z
  have K3 := Lib.hid k3
  have S3 := Lib.hid s3
  have HL := Lib.hid (And.intro hl (And.intro hs hB))
  have HR3 := Lib.hid hr3
  obtain ⟨tz, bz, kz⟩ := p_store b3Z (cs := zhd) rfl
  have HTZ := Lib.hid tz
  have HBZ := Lib.hid bz
  have HKZ := Lib.hid (keeps_own k3 kz (by omega))
  clear tz bz kz
  have d1 : (m : Int) < 8 := by omega
  unfold hvv
  clear hw2 k2 bG bZ s2 hw3 k23 k3 b3G b3Z s3 hr3 hr hB hw hs hl hk hp
  generalize hC : hcs h nul = C at *
  go_enter Try.func52, Try.ntmps52
  go_wp2_with fail
  try rw [← HW2.out]
  refine wp_region_held_drew (S := fun w' => w'.cell? ⟨w.heap.size, 34, none⟩ = some (.int .u8 (h.pr : Int))) (by kernel_rfl) (HPR.out _ ((Keeps.refl _ w2).drew)) (fun hHeld => ?_)
  refine wpAnyH_take (i := 0) (v := ?_) rfl (by kernel_rfl) (by kernel_rfl) (by kernel_rfl) (fun _ _ _ h => h) (Or.inl ⟨by kernel_rfl, ?_⟩) (by assumption) ?_
  rotate_left
  · (intro w hSw; (try dsimp only at hSw); go_simp) <;> (try (with_reducible rfl))
  try simp only [Act.put, Array.getInternal_eq_getElem, List.getElem_toArray, List.getElem_cons_zero, List.getElem_cons_succ, List.setIfInBounds_toArray, List.set_cons_zero, List.set_cons_succ]
  refine wpAnyH_take (i := 1) (v := ?_) rfl (by kernel_rfl) (by kernel_rfl) (by kernel_rfl) (fun _ _ _ h => h) (Or.inl ⟨by kernel_rfl, ?_⟩) (by assumption) ?_
  rotate_left
  · (intro w hSw; have hcell := hSw; go_simp) <;> (try (with_reducible rfl))
  try simp only [Act.put, Array.getInternal_eq_getElem, List.getElem_toArray, List.getElem_cons_zero, List.getElem_cons_succ, List.setIfInBounds_toArray, List.set_cons_zero, List.set_cons_succ]
  refine wpAnyH_take (i := 3) (v := ?_) rfl (by kernel_rfl) (by kernel_rfl) (by kernel_rfl) (fun _ _ _ h => h) (Or.inl ⟨by kernel_rfl, ?_⟩) (by assumption) ?_
  rotate_left
  · (intro w hSw; (try dsimp only at hSw); go_simp) <;> (try (with_reducible rfl))
  try simp only [Act.put, Array.getInternal_eq_getElem, List.getElem_toArray, List.getElem_cons_zero, List.getElem_cons_succ, List.setIfInBounds_toArray, List.set_cons_zero, List.set_cons_succ]
  refine wpAnyH_take (i := 4) (v := ?_) rfl (by kernel_rfl) (by kernel_rfl) (by kernel_rfl) (fun _ _ _ h => h) (Or.inl ⟨by kernel_rfl, ?_⟩) (by assumption) ?_
  rotate_left
  · (intro w hSw; have hcell := hSw; go_simp) <;> (try (with_reducible rfl))
  try simp only [Act.put, Array.getInternal_eq_getElem, List.getElem_toArray, List.getElem_cons_zero, List.getElem_cons_succ, List.setIfInBounds_toArray, List.set_cons_zero, List.set_cons_succ]
  refine wpAnyH_ready (rs := [2]) (by kernel_rfl) (by simp) ?_
  refine AllReadyH.cons rfl (fun K hK => ?_) AllReadyH.nil
  (rw [if_pos (by kernel_rfl)]; go_simp; go_at_call 41; refine ((HM _).out).mono ?_; rintro e wx ⟨rfl, h9⟩; subst wx)
  refine hK.out _ _ (HPR.out _ ((Keeps.refl _ w2).drew)) (fun hHeld => ?_)
  clear hK K
  try simp only [Act.put, Array.getInternal_eq_getElem, List.getElem_toArray, List.getElem_cons_zero, List.getElem_cons_succ, List.setIfInBounds_toArray, List.set_cons_zero, List.set_cons_succ]
  refine wpAnyH_ready (rs := [5]) (by kernel_rfl) (by simp) ?_
  refine AllReadyH.cons rfl (fun K hK => ?_) AllReadyH.nil
  (rw [if_pos (by kernel_rfl)]; go_simp; go_at_call 35; refine ((HS _).out).mono ?_; rintro e wx ⟨rfl, h9⟩; subst wx)
  refine hK.out _ _ (HPR.out _ ((Keeps.refl _ w2).drew)) (fun hHeld => ?_)
  clear hK K
  try simp only [Act.put, Array.getInternal_eq_getElem, List.getElem_toArray, List.getElem_cons_zero, List.getElem_cons_succ, List.setIfInBounds_toArray, List.set_cons_zero, List.set_cons_succ]
  refine wpAnyH_take (i := 6) (v := ?_) rfl (by kernel_rfl) (by kernel_rfl) (by kernel_rfl) (fun _ _ _ h => h) (Or.inl ⟨by kernel_rfl, ?_⟩) (by assumption) ?_
  rotate_left
  · (intro w hSw; (try dsimp only at hSw); go_simp) <;> (try (with_reducible rfl))
  try simp only [Act.put, Array.getInternal_eq_getElem, List.getElem_toArray, List.getElem_cons_zero, List.getElem_cons_succ, List.setIfInBounds_toArray, List.set_cons_zero, List.set_cons_succ]
  refine wpAnyH_take (i := 7) (v := ?_) rfl (by kernel_rfl) (by kernel_rfl) (by kernel_rfl) (fun _ _ _ h => h) (Or.inl ⟨by kernel_rfl, ?_⟩) (by assumption) ?_
  rotate_left
  · (intro w hSw; (try dsimp only at hSw); go_simp) <;> (try (with_reducible rfl))
  try simp only [Act.put, Array.getInternal_eq_getElem, List.getElem_toArray, List.getElem_cons_zero, List.getElem_cons_succ, List.setIfInBounds_toArray, List.set_cons_zero, List.set_cons_succ]
  refine wpAnyH_done ?_ ?_ _
  · kernel_rfl
  rw [← HW3.out]
  go_wp2_with (first
    | (refine p_build rfl 29 _ rfl _ rfl _ HZB.out ?_)
    | (refine' wpList_store_mid rfl 29 _ _ rfl (w.heap.size + 1) 0 (zhd).toArray ?hx rfl ?ht HZI.out HZO.out ?_; (case hx => rfl); (case ht => exact HTZ.out)))
  try rw [Exit.noGoto_ret]
  refine bodyPost_ret (Go.Proofs.Ytidengmcbppcoaa.wh.ret_cell (p := 4) (u := 5) (ty := 29) (by kernel_rfl) _ _ _ (w.heap.size + 1) _ _ _ (by rfl) HBZ.out Try.underlying29 rfl HZI.out) rfl ?_
  exact ⟨nul, rfl, By.nil_ HKZ.out⟩
set_option maxRecDepth 100000 in
set_option maxHeartbeats 2000000 in
theorem rrn (h : Hd) (hw : h.Wf) (g o m c B : Nat) (l : List Nat) (hl : l.length = m) (hm : m ≤ 140737480000000) (hc : m ≤ c) (hc9 : c ≤ 9223372036854775807) (hs : Small l) (hr : Rd w B (some ⟨g, o, none⟩) (by_ l)) (hB : B ≤ w.heap.size) (h6 : h.pr ≠ 6) (h7 : h.pr ≠ 17)  :
    Calls Try.prog 52 #[hvv h nul, .slice (some ⟨g, o, none⟩) m c] w fun e w' => RK w w' e (kn h l, 0) := by
  unfold RK
  dsimp only
  obtain ⟨w2, hw2, k2, bG, bZ, s2⟩ := box2 w (hcs h nul) zhd 29 29
  dsimp only [zhd] at hw2
  obtain ⟨w3, hw3⟩ : ∃ w3, w3 = w2.drew := ⟨_, rfl⟩
  have k23 : ∀ S, Keeps S w2 w3 := fun S => by rw [hw3]; exact (Keeps.refl S w2).drew
  have k3 : ∀ S, Keeps S w w3 := fun S => (k2 S).trans (k23 S)
  have b3G := Blk.keeps bG (k23 (fun _ => False)) (fun z => z)
  have b3Z := Blk.keeps bZ (k23 (fun _ => False)) (fun z => z)
  have s3 : w3.heap.size = w.heap.size + 2 := by rw [hw3]; exact s2
  have hr3 := rd_old hr (k3 (fun _ => False))
  have HPR : Hid (∀ wq, Keeps (fun _ => False) w2 wq → wq.cell? ⟨w.heap.size, 34, none⟩ = some (.int .u8 (h.pr : Int))) := Lib.hid (fun wq kq => (HF.of_blk hw (Blk.keeps bG kq (fun z => z))).pr)
  have HM : ∀ u, Hid (Calls Try.prog 41 #[.int .u8 (h.pr : Int)] u fun e w' => e = .returned (.int .i64 0) ∧ w' = u) := fun u => Lib.hid (by have := pmids_ u h.pr; rw [show mids h.pr = 0 from midsN h6 h7] at this; exact this)
  have HS : ∀ u, Hid (Calls Try.prog 35 #[.int .u8 (h.pr : Int)] u fun e w' => e = .returned (.int .i64 0) ∧ w' = u) := fun u => Lib.hid (by have := psat_ u h.pr; rw [show sat h.pr = 0 from satN h6 h7] at this; exact this)
  have HZI := Lib.hid zhd_info
  have HZB := Lib.hid zhd_built
  have HZO := Lib.hid (all_oneCell_toArray zhd_one)
  have HWF := Lib.hid hw
  have HW2 := Lib.hid hw2
  have HW3 := Lib.hid hw3
  have HB3 := Lib.hid b3G
  have HZ3 := Lib.hid b3Z
  have K3 := Lib.hid k3
  have S3 := Lib.hid s3
  have HL := Lib.hid (And.intro hl (And.intro hs hB))
  have HR3 := Lib.hid hr3
  have HDL := Lib.hid hl
  have HCN : Hid (Calls Try.prog 64 #[.slice (some ⟨g, o, none⟩) m c] w3 fun e w' => ∃ v, e = .returned v ∧ By w3 w' v l) := Lib.hid (clone_ w3 g o m c B l hl (by omega) hr3)
  have d1 : ¬ (m : Int) < 0 := by omega
  unfold hvv
  clear hw2 k2 bG bZ s2 hw3 k23 k3 b3G b3Z s3 hr3 hr hB hw h6 h7
  generalize hC : hcs h nul = C at *
  go_enter Try.func52, Try.ntmps52
  go_wp2_with fail
  try rw [← HW2.out]
  refine wp_region_held_drew (S := fun w' => w'.cell? ⟨w.heap.size, 34, none⟩ = some (.int .u8 (h.pr : Int))) (by kernel_rfl) (HPR.out _ ((Keeps.refl _ w2).drew)) (fun hHeld => ?_)
  refine wpAnyH_take (i := 0) (v := ?_) rfl (by kernel_rfl) (by kernel_rfl) (by kernel_rfl) (fun _ _ _ h => h) (Or.inl ⟨by kernel_rfl, ?_⟩) (by assumption) ?_
  rotate_left
  · (intro w hSw; (try dsimp only at hSw); go_simp) <;> (try (with_reducible rfl))
  try simp only [Act.put, Array.getInternal_eq_getElem, List.getElem_toArray, List.getElem_cons_zero, List.getElem_cons_succ, List.setIfInBounds_toArray, List.set_cons_zero, List.set_cons_succ]
  refine wpAnyH_take (i := 1) (v := ?_) rfl (by kernel_rfl) (by kernel_rfl) (by kernel_rfl) (fun _ _ _ h => h) (Or.inl ⟨by kernel_rfl, ?_⟩) (by assumption) ?_
  rotate_left
  · (intro w hSw; have hcell := hSw; go_simp) <;> (try (with_reducible rfl))
  try simp only [Act.put, Array.getInternal_eq_getElem, List.getElem_toArray, List.getElem_cons_zero, List.getElem_cons_succ, List.setIfInBounds_toArray, List.set_cons_zero, List.set_cons_succ]
  refine wpAnyH_take (i := 3) (v := ?_) rfl (by kernel_rfl) (by kernel_rfl) (by kernel_rfl) (fun _ _ _ h => h) (Or.inl ⟨by kernel_rfl, ?_⟩) (by assumption) ?_
  rotate_left
  · (intro w hSw; (try dsimp only at hSw); go_simp) <;> (try (with_reducible rfl))
  try simp only [Act.put, Array.getInternal_eq_getElem, List.getElem_toArray, List.getElem_cons_zero, List.getElem_cons_succ, List.setIfInBounds_toArray, List.set_cons_zero, List.set_cons_succ]
  refine wpAnyH_take (i := 4) (v := ?_) rfl (by kernel_rfl) (by kernel_rfl) (by kernel_rfl) (fun _ _ _ h => h) (Or.inl ⟨by kernel_rfl, ?_⟩) (by assumption) ?_
  rotate_left
  · (intro w hSw; have hcell := hSw; go_simp) <;> (try (with_reducible rfl))
  try simp only [Act.put, Array.getInternal_eq_getElem, List.getElem_toArray, List.getElem_cons_zero, List.getElem_cons_succ, List.setIfInBounds_toArray, List.set_cons_zero, List.set_cons_succ]
  refine wpAnyH_ready (rs := [2]) (by kernel_rfl) (by simp) ?_
  refine AllReadyH.cons rfl (fun K hK => ?_) AllReadyH.nil
  (rw [if_pos (by kernel_rfl)]; go_simp; go_at_call 41; refine ((HM _).out).mono ?_; rintro e wx ⟨rfl, h9⟩; subst wx)
  refine hK.out _ _ (HPR.out _ ((Keeps.refl _ w2).drew)) (fun hHeld => ?_)
  clear hK K
  try simp only [Act.put, Array.getInternal_eq_getElem, List.getElem_toArray, List.getElem_cons_zero, List.getElem_cons_succ, List.setIfInBounds_toArray, List.set_cons_zero, List.set_cons_succ]
  refine wpAnyH_ready (rs := [5]) (by kernel_rfl) (by simp) ?_
  refine AllReadyH.cons rfl (fun K hK => ?_) AllReadyH.nil
  (rw [if_pos (by kernel_rfl)]; go_simp; go_at_call 35; refine ((HS _).out).mono ?_; rintro e wx ⟨rfl, h9⟩; subst wx)
  refine hK.out _ _ (HPR.out _ ((Keeps.refl _ w2).drew)) (fun hHeld => ?_)
  clear hK K
  try simp only [Act.put, Array.getInternal_eq_getElem, List.getElem_toArray, List.getElem_cons_zero, List.getElem_cons_succ, List.setIfInBounds_toArray, List.set_cons_zero, List.set_cons_succ]
  refine wpAnyH_take (i := 6) (v := ?_) rfl (by kernel_rfl) (by kernel_rfl) (by kernel_rfl) (fun _ _ _ h => h) (Or.inl ⟨by kernel_rfl, ?_⟩) (by assumption) ?_
  rotate_left
  · (intro w hSw; (try dsimp only at hSw); go_simp) <;> (try (with_reducible rfl))
  try simp only [Act.put, Array.getInternal_eq_getElem, List.getElem_toArray, List.getElem_cons_zero, List.getElem_cons_succ, List.setIfInBounds_toArray, List.set_cons_zero, List.set_cons_succ]
  refine wpAnyH_take (i := 7) (v := ?_) rfl (by kernel_rfl) (by kernel_rfl) (by kernel_rfl) (fun _ _ _ h => h) (Or.inl ⟨by kernel_rfl, ?_⟩) (by assumption) ?_
  rotate_left
  · (intro w hSw; (try dsimp only at hSw); go_simp) <;> (try (with_reducible rfl))
  try simp only [Act.put, Array.getInternal_eq_getElem, List.getElem_toArray, List.getElem_cons_zero, List.getElem_cons_succ, List.setIfInBounds_toArray, List.set_cons_zero, List.set_cons_succ]
  refine wpAnyH_done ?_ ?_ _
  · kernel_rfl
  rw [← HW3.out]
  go_wp2_with fail
  refine HCN.out.mono ?_
  rintro e w4 ⟨v, rfl, y4⟩
  obtain ⟨A4, c4, rfl, r4⟩ := y4.rd
  rw [HDL.out] at y4 ⊢
  have s3 := S3.out
  have ne4 : ¬ (Value.slice A4 m c4).ownBlock = some w.heap.size := y4.apart (by omega)
  have ne4z : ¬ (Value.slice A4 m c4).ownBlock = some (w.heap.size + 1) := y4.apart (by omega)
  have y4w : By w w4 (.slice A4 m c4) l := y4.base K3.out
  have g4 := Blk.keeps HB3.out (y4.keep (fun _ => False)) (fun z => z)
  have z4 := Blk.keeps HZ3.out (y4.keep (fun _ => False)) (fun z => z)
  rw [← hC] at g4
  have rr4 := rd_old HR3.out (y4.keep (fun _ => False))
  have kk4 : ∀ S, Keeps S w w4 := fun S => (K3.out S).trans (y4.keep S)
  have sz4 : w.heap.size + 2 ≤ w4.heap.size := by have := (y4.keep (fun _ => False)).size; omega
  have h1 := HWF.out.s
  have h2 := HWF.out.d
  have c42 : (w4).cell? ⟨w.heap.size, 42, none⟩ = some _ := h_cell g4 h1 h2 8 _ rfl
  have f42 : (w4).frozen? ⟨w.heap.size, 42, none⟩ = false := g4.frozen 42
  obtain ⟨w5, hw5⟩ : ∃ w5, w5 = w4.setCell ⟨w.heap.size, 42, none⟩ (.slice A4 m c4) := ⟨_, rfl⟩
  have g5 := st_dat g4 h1 h2 (.slice A4 m c4) l
  have p5 : Keeps (· = w.heap.size) w4 (w4.setCell ⟨w.heap.size, 42, none⟩ (.slice A4 m c4)) := keeps_put (Keeps.refl _ w4) 42 _
  rw [← hw5] at g5 p5
  have HW5 := Lib.hid hw5
  clear hw5
  have gk : Blk w5 w.heap.size 29 (hcs (kn h l) (.slice A4 m c4)) := g5
  have z5 := Blk.keeps z4 p5 (by omega)
  have hwk : (kn h l).Wf := kn_wf HWF.out HL.out.2.1
  obtain ⟨tz, bz, kz⟩ := p_store (cs := hcs (kn h l) (.slice A4 m c4)) z5 (by rw [hcs_len hwk]; rfl)
  have yz : By w _ (.slice A4 m c4) (kn h l).dat := past_ (past_ y4w p5 (Nat.le_refl _) ne4) kz (by omega) ne4z
  have HTZ := Lib.hid tz
  have HBZ := Lib.hid bz
  have HYZ := Lib.hid yz
  have HSZ := Lib.hid (hd_sz hwk (.slice A4 m c4))
  have HSO := Lib.hid (all_oneCell_toArray (hcs_one (h := kn h l) (v := .slice A4 m c4) rfl))
  have HGK := Lib.hid gk
  clear s3 ne4 ne4z y4w g4 z4 rr4 kk4 sz4 h1 h2 g5 p5 gk z5 hwk tz bz kz yz y4 r4
  generalize hCK : hcs (kn h l) (.slice A4 m c4) = CK at *
  have HCK := Lib.hid hCK
  clear hCK
  go_wp2_with (first
    | ((try rw [← HW5.out]); refine wpList_load_mid rfl 29 _ rfl w.heap.size 0 rfl CK _ (Blk.range HGK.out) Try.underlying29 rfl HSZ.out ?_)
    | (refine' wpList_store_mid rfl 29 _ _ rfl (w.heap.size + 1) 0 (CK).toArray ?hx rfl ?ht HSZ.out HSO.out ?_; (case hx => rfl); (case ht => exact HTZ.out)))
  try rw [Exit.noGoto_ret]
  refine bodyPost_ret (Go.Proofs.Ytidengmcbppcoaa.wh.ret_cell (p := 4) (u := 5) (ty := 29) (by kernel_rfl) _ _ _ (w.heap.size + 1) _ _ _ (by rfl) HBZ.out Try.underlying29 rfl HSZ.out) rfl ?_
  exact ⟨.slice A4 m c4, by rw [HCK.out]; rfl, HYZ.out⟩
end
end Go.Proofs.Ytidengmcbppcoaa.pk
