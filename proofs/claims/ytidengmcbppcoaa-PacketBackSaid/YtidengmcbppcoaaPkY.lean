/-
  packet.readRest: TCP and UDP.
-/
import Derived.Test.YtidengmcbppcoaaPkW
set_option linter.unusedVariables false
set_option linter.unusedSimpArgs false
namespace Go.Proofs.Ytidengmcbppcoaa.pk
open Go.RowKit Go.Proofs.Ytidengmcbppcoaa.oc Go.Proofs.Ytidengmcbppcoaa.mz Go.Proofs.Ytidengmcbppcoaa.pf Go.Proofs.Ytidengmcbppcoaa.wh Go.Proofs.Ytidengmcbppcoaa.qk Go.Proofs.Ytidengmcbppcoaa.bys
section
variable (w : World)
set_option maxRecDepth 100000 in
set_option maxHeartbeats 2000000 in
theorem rru_i (h : Hd) (hw : h.Wf) (g o m c B : Nat) (l : List Nat) (hl : l.length = m) (hm : m ≤ 140737480000000) (hc : m ≤ c) (hc9 : c ≤ 9223372036854775807) (hs : Small l) (hr : Rd w B (some ⟨g, o, none⟩) (by_ l)) (hB : B ≤ w.heap.size) (hp : h.pr = 17) (hk : 8 ≤ m) (ha : l.take 6 ≠ (mid (ku h l)).take 6) :
    Calls Try.prog 52 #[hvv h nul, .slice (some ⟨g, o, none⟩) m c] w fun e w' => RK w w' e (hz, 161) := by
  unfold RK
  dsimp only
  obtain ⟨w2, hw2, k2, bG, bZ, s2⟩ := box2 w (hcs h nul) zhd 29 29
  dsimp only [zhd] at hw2
  obtain ⟨w3, hw3⟩ : ∃ w3, w3 = w2.drew := ⟨_, rfl⟩
  have k23 : ∀ S, Keeps S w2 w3 := fun S => by rw [hw3]; exact (Keeps.refl S w2).drew
  have k3 : ∀ S, Keeps S w w3 := fun S => (k2 S).trans (k23 S)
  have b3G := Blk.keeps bG (k23 (fun _ => False)) (fun z => z)
  have b3Z := Blk.keeps bZ (k23 (fun _ => False)) (fun z => z)
  have s3 : w3.heap.size = w.heap.size + 2 := by rw [hw3]; exact s2
  have hr3 := rd_old hr (k3 (fun _ => False))
  have HPR : Hid (∀ wq, Keeps (fun _ => False) w2 wq → wq.cell? ⟨w.heap.size, 34, none⟩ = some (.int .u8 (h.pr : Int))) := Lib.hid (fun wq kq => (HF.of_blk hw (Blk.keeps bG kq (fun z => z))).pr)
  have HM : ∀ u, Hid (Calls Try.prog 41 #[.int .u8 (h.pr : Int)] u fun e w' => e = .returned (.int .i64 8) ∧ w' = u) := fun u => Lib.hid (by have := pmids_ u h.pr; rw [show mids h.pr = 8 from by rw [hp]; rfl] at this; exact this)
  have HS : ∀ u, Hid (Calls Try.prog 35 #[.int .u8 (h.pr : Int)] u fun e w' => e = .returned (.int .i64 6) ∧ w' = u) := fun u => Lib.hid (by have := psat_ u h.pr; rw [show sat h.pr = 6 from by rw [hp]; rfl] at this; exact this)
  have HZI := Lib.hid zhd_info
  have HZB := Lib.hid zhd_built
  have HZO := Lib.hid (all_oneCell_toArray zhd_one)
  have HWF := Lib.hid hw
  have HW2 := Lib.hid hw2
  have HW3 := Lib.hid hw3
  have HB3 := Lib.hid b3G
  have HZ3 := Lib.hid b3Z
  have K3 := Lib.hid k3
  have S3 := Lib.hid s3
  have HL := Lib.hid (And.intro hl (And.intro hs hB))
  have HR3 := Lib.hid hr3
  obtain ⟨o2, ho2⟩ := cutA_form g o c 8
  obtain ⟨n4, hn4⟩ : ∃ n4, n4 = m - 8 := ⟨_, rfl⟩
  obtain ⟨c5, hc5⟩ : ∃ c5, c5 = c - 8 := ⟨_, rfl⟩
  have q1 : ∀ u, (Instr.slice 27 (.slice (some ⟨g, o, none⟩) m c) (some (.int .i64 8)) none none).run Try.prog u = .ok (.slice (some ⟨g, o2, none⟩) n4 c5) u := fun u => by rw [hn4, hc5, ← ho2]; exact cut_l (some ⟨g, o, none⟩) m c 8 (by omega) u
  have hrd := rd_cut hr3 (c := c) 8 (by omega)
  rw [ho2] at hrd
  have hdl : (l.drop 8).length = n4 := by rw [List.length_drop]; omega
  have HDL := Lib.hid hdl
  have HCN : Hid (Calls Try.prog 64 #[.slice (some ⟨g, o2, none⟩) n4 c5] w3 fun e w' => ∃ v, e = .returned v ∧ By w3 w' v (l.drop 8)) := Lib.hid (clone_ w3 g o2 n4 c5 B (l.drop 8) hdl (by omega) hrd)
  have d1 : ¬ (m : Int) < 8 := by omega
  have nb : n4 ≤ 140737480000000 := by omega
  clear ho2 hrd hdl hn4 hc5
  have HP := Lib.hid hp
  unfold hvv
  clear hw2 k2 bG bZ s2 hw3 k23 k3 b3G b3Z s3 hr3 hr hB hw hp
  generalize hC : hcs h nul = C at *
  go_enter Try.func52, Try.ntmps52
  go_wp2_with fail
  try rw [← HW2.out]
  refine wp_region_held_drew (S := fun w' => w'.cell? ⟨w.heap.size, 34, none⟩ = some (.int .u8 (h.pr : Int))) (by kernel_rfl) (HPR.out _ ((Keeps.refl _ w2).drew)) (fun hHeld => ?_)
  refine wpAnyH_take (i := 0) (v := ?_) rfl (by kernel_rfl) (by kernel_rfl) (by kernel_rfl) (fun _ _ _ h => h) (Or.inl ⟨by kernel_rfl, ?_⟩) (by assumption) ?_
  rotate_left
  · (intro w hSw; (try dsimp only at hSw); go_simp) <;> (try (with_reducible rfl))
  try simp only [Act.put, Array.getInternal_eq_getElem, List.getElem_toArray, List.getElem_cons_zero, List.getElem_cons_succ, List.setIfInBounds_toArray, List.set_cons_zero, List.set_cons_succ]
  refine wpAnyH_take (i := 1) (v := ?_) rfl (by kernel_rfl) (by kernel_rfl) (by kernel_rfl) (fun _ _ _ h => h) (Or.inl ⟨by kernel_rfl, ?_⟩) (by assumption) ?_
  rotate_left
  · (intro w hSw; have hcell := hSw; go_simp) <;> (try (with_reducible rfl))
  try simp only [Act.put, Array.getInternal_eq_getElem, List.getElem_toArray, List.getElem_cons_zero, List.getElem_cons_succ, List.setIfInBounds_toArray, List.set_cons_zero, List.set_cons_succ]
  refine wpAnyH_take (i := 3) (v := ?_) rfl (by kernel_rfl) (by kernel_rfl) (by kernel_rfl) (fun _ _ _ h => h) (Or.inl ⟨by kernel_rfl, ?_⟩) (by assumption) ?_
  rotate_left
  · (intro w hSw; (try dsimp only at hSw); go_simp) <;> (try (with_reducible rfl))
  try simp only [Act.put, Array.getInternal_eq_getElem, List.getElem_toArray, List.getElem_cons_zero, List.getElem_cons_succ, List.setIfInBounds_toArray, List.set_cons_zero, List.set_cons_succ]
  refine wpAnyH_take (i := 4) (v := ?_) rfl (by kernel_rfl) (by kernel_rfl) (by kernel_rfl) (fun _ _ _ h => h) (Or.inl ⟨by kernel_rfl, ?_⟩) (by assumption) ?_
  rotate_left
  · (intro w hSw; have hcell := hSw; go_simp) <;> (try (with_reducible rfl))
  try simp only [Act.put, Array.getInternal_eq_getElem, List.getElem_toArray, List.getElem_cons_zero, List.getElem_cons_succ, List.setIfInBounds_toArray, List.set_cons_zero, List.set_cons_succ]
  refine wpAnyH_ready (rs := [2]) (by kernel_rfl) (by simp) ?_
  refine AllReadyH.cons rfl (fun K hK => ?_) AllReadyH.nil
  (rw [if_pos (by kernel_rfl)]; go_simp; go_at_call 41; refine ((HM _).out).mono ?_; rintro e wx ⟨rfl, h9⟩; subst wx)
  refine hK.out _ _ (HPR.out _ ((Keeps.refl _ w2).drew)) (fun hHeld => ?_)
  clear hK K
  try simp only [Act.put, Array.getInternal_eq_getElem, List.getElem_toArray, List.getElem_cons_zero, List.getElem_cons_succ, List.setIfInBounds_toArray, List.set_cons_zero, List.set_cons_succ]
  refine wpAnyH_ready (rs := [5]) (by kernel_rfl) (by simp) ?_
  refine AllReadyH.cons rfl (fun K hK => ?_) AllReadyH.nil
  (rw [if_pos (by kernel_rfl)]; go_simp; go_at_call 35; refine ((HS _).out).mono ?_; rintro e wx ⟨rfl, h9⟩; subst wx)
  refine hK.out _ _ (HPR.out _ ((Keeps.refl _ w2).drew)) (fun hHeld => ?_)
  clear hK K
  try simp only [Act.put, Array.getInternal_eq_getElem, List.getElem_toArray, List.getElem_cons_zero, List.getElem_cons_succ, List.setIfInBounds_toArray, List.set_cons_zero, List.set_cons_succ]
  refine wpAnyH_take (i := 6) (v := ?_) rfl (by kernel_rfl) (by kernel_rfl) (by kernel_rfl) (fun _ _ _ h => h) (Or.inl ⟨by kernel_rfl, ?_⟩) (by assumption) ?_
  rotate_left
  · (intro w hSw; (try dsimp only at hSw); go_simp) <;> (try (with_reducible rfl))
  try simp only [Act.put, Array.getInternal_eq_getElem, List.getElem_toArray, List.getElem_cons_zero, List.getElem_cons_succ, List.setIfInBounds_toArray, List.set_cons_zero, List.set_cons_succ]
  refine wpAnyH_take (i := 7) (v := ?_) rfl (by kernel_rfl) (by kernel_rfl) (by kernel_rfl) (fun _ _ _ h => h) (Or.inl ⟨by kernel_rfl, ?_⟩) (by assumption) ?_
  rotate_left
  · (intro w hSw; (try dsimp only at hSw); go_simp) <;> (try (with_reducible rfl))
  try simp only [Act.put, Array.getInternal_eq_getElem, List.getElem_toArray, List.getElem_cons_zero, List.getElem_cons_succ, List.setIfInBounds_toArray, List.set_cons_zero, List.set_cons_succ]
  refine wpAnyH_done ?_ ?_ _
  · kernel_rfl
  rw [← HW3.out]
  go_wp2_with fail
  refine HCN.out.mono ?_
  rintro e w4 ⟨v, rfl, y4⟩
  obtain ⟨A4, c4, rfl, r4⟩ := y4.rd
  rw [HDL.out] at y4 ⊢
  have s3 := S3.out
  have ne4 : ¬ (Value.slice A4 n4 c4).ownBlock = some w.heap.size := y4.apart (by omega)
  have ne4z : ¬ (Value.slice A4 n4 c4).ownBlock = some (w.heap.size + 1) := y4.apart (by omega)
  have y4w : By w w4 (.slice A4 n4 c4) (l.drop 8) := y4.base K3.out
  have g4 := Blk.keeps HB3.out (y4.keep (fun _ => False)) (fun z => z)
  have z4 := Blk.keeps HZ3.out (y4.keep (fun _ => False)) (fun z => z)
  rw [← hC] at g4
  have rr4 := rd_old HR3.out (y4.keep (fun _ => False))
  have kk4 : ∀ S, Keeps S w w4 := fun S => (K3.out S).trans (y4.keep S)
  have sz4 : w.heap.size + 2 ≤ w4.heap.size := by have := (y4.keep (fun _ => False)).size; omega
  have h1 := HWF.out.s
  have h2 := HWF.out.d
  have c42 : (w4).cell? ⟨w.heap.size, 42, none⟩ = some _ := h_cell g4 h1 h2 8 _ rfl
  have f42 : (w4).frozen? ⟨w.heap.size, 42, none⟩ = false := g4.frozen 42
  obtain ⟨w5, hw5⟩ : ∃ w5, w5 = w4.setCell ⟨w.heap.size, 42, none⟩ (.slice A4 n4 c4) := ⟨_, rfl⟩
  have g5 := st_dat g4 h1 h2 (.slice A4 n4 c4) (l.drop 8)
  have p5 : Keeps (· = w.heap.size) w4 (w4.setCell ⟨w.heap.size, 42, none⟩ (.slice A4 n4 c4)) := keeps_put (Keeps.refl _ w4) 42 _
  rw [← hw5] at g5 p5
  have HW5 := Lib.hid hw5
  clear hw5
  have c35 : (w5).cell? ⟨w.heap.size, 35, none⟩ = some _ := h_cell g5 h1 h2 1 _ rfl
  have f35 : (w5).frozen? ⟨w.heap.size, 35, none⟩ = false := g5.frozen 35
  obtain ⟨x0, hx0⟩ : ∃ x0, x0 = num2 l 0 := ⟨_, rfl⟩
  obtain ⟨x2, hx2⟩ : ∃ x2, x2 = num2 l 2 := ⟨_, rfl⟩
  have g6a := st_sp g5 h1 h2 x0
  have c36 : (w5.setCell ⟨w.heap.size, 35, none⟩ (.int .u16 (x0 : Int))).cell? ⟨w.heap.size, 36, none⟩ = some _ := h_cell g6a h1 h2 2 _ rfl
  have f36 : (w5.setCell ⟨w.heap.size, 35, none⟩ (.int .u16 (x0 : Int))).frozen? ⟨w.heap.size, 36, none⟩ = false := g6a.frozen 36
  have g6 := st_dp g6a h1 h2 x2
  obtain ⟨w6, hw6⟩ : ∃ w6, w6 = (w5.setCell ⟨w.heap.size, 35, none⟩ (.int .u16 (x0 : Int))).setCell ⟨w.heap.size, 36, none⟩ (.int .u16 (x2 : Int)) := ⟨_, rfl⟩
  have p6 : Keeps (· = w.heap.size) w4 ((w5.setCell ⟨w.heap.size, 35, none⟩ (.int .u16 (x0 : Int))).setCell ⟨w.heap.size, 36, none⟩ (.int .u16 (x2 : Int))) := keeps_put (keeps_put p5 35 _) 36 _
  have c34 : ((w5.setCell ⟨w.heap.size, 35, none⟩ (.int .u16 (x0 : Int))).setCell ⟨w.heap.size, 36, none⟩ (.int .u16 (x2 : Int))).cell? ⟨w.heap.size, 34, none⟩ = some (.int .u8 (h.pr : Int)) := h_cell g6 h1 h2 0 _ rfl
  rw [← hw6] at g6 p6
  have HW6 := Lib.hid hw6
  clear hw6
  have hp := HP.out
  have gk : Blk w6 w.heap.size 29 (hcs (ku h l) (.slice A4 n4 c4)) := by
    subst hx0 hx2
    exact g6
  have hBG : B ≤ w.heap.size := HL.out.2.2
  have hl := HL.out.1
  have hs := HL.out.2.1
  have hwk : (ku h l).Wf := ku_wf HWF.out hs
  have rr5 := rd_put rr4 p5 hBG
  have rr6 := rd_put rr4 p6 hBG
  have rr8 := rd_put rr4 p6 hBG
  have HN0 : Hid (Calls Try.prog 65 #[.slice (some ⟨g, o, none⟩) m c, .int .i64 0] w5 fun e w' => e = .returned (.int .u16 (x0 : Nat)) ∧ w5 = w') := Lib.hid (by rw [hx0]; exact number_ w5 (some ⟨g, o, none⟩) l m c B 0 hl (by omega) hc hc9 hs rr5 (by omega))
  have HN2 : Hid (Calls Try.prog 65 #[.slice (some ⟨g, o, none⟩) m c, .int .i64 2] w5 fun e w' => e = .returned (.int .u16 (x2 : Nat)) ∧ w5 = w') := Lib.hid (by rw [hx2]; exact number_ w5 (some ⟨g, o, none⟩) l m c B 2 hl (by omega) hc hc9 hs rr5 (by omega))
  have d6 : ((h.pr : Int) == 6) = false := beq_eq_false_iff_ne.2 (by omega)
  have hkd : (ku h l).dat.length = n4 := HDL.out
  have HMI : Hid (Calls Try.prog 34 #[hvv (ku h l) (.slice A4 n4 c4)] w6 fun e w' => ∃ v, e = .returned v ∧ By w6 w' v (mid (ku h l))) := Lib.hid (middle_ w6 (ku h l) A4 n4 c4 hwk hkd (by omega))
  have hml : (mid (ku h l)).length = 8 := by rw [mid_len]; show mids h.pr = 8; rw [hp]; rfl
  have HML := Lib.hid hml
  have HSM := Lib.hid (mid_small hwk)
  have HSZ := Lib.hid (hd_sz hwk (.slice A4 n4 c4))
  have HSO := Lib.hid (all_oneCell_toArray (hcs_one (h := (ku h l)) (v := .slice A4 n4 c4) rfl))
  have HGK := Lib.hid gk
  have kk8 : ∀ S, Keeps S w w6 := keeps_own kk4 p6 (Nat.le_refl _)
  have KK8 := Lib.hid kk8
  have ZZ8 := Lib.hid (Blk.keeps z4 p6 (by omega))
  have Y8 := Lib.hid (past_ y4w p6 (Nat.le_refl _) ne4)
  have NZ := Lib.hid ne4z
  have RR8 := Lib.hid rr8
  have SZ8 : Hid (w.heap.size + 2 ≤ w6.heap.size) := Lib.hid (by have := p6.size; omega)
  have HKD := Lib.hid hkd
  have HWK := Lib.hid hwk
  have hpk : (ku h l).pr = 17 := hp
  have HPK := Lib.hid hpk
  clear s3 ne4 ne4z y4w g4 z4 rr4 kk4 sz4 h1 h2 g5 p5 gk hwk y4 r4 g6a g6 p6  hBG rr5 rr6 rr8 hkd kk8 hx0 hx2 hs hl hml hpk hp
  unfold hvv at HMI
  generalize hCK : hcs (ku h l) (.slice A4 n4 c4) = CK at *
  have HCK := Lib.hid hCK
  clear hCK
  go_wp2_with (first
    | ((with_reducible show Calls _ 65 #[_, .int .i64 0] _ _); (try rw [← HW5.out]); refine HN0.out.mono ?_; rintro e wx ⟨rfl, h9⟩; subst wx)
    | ((with_reducible show Calls _ 65 #[_, .int .i64 2] _ _); refine HN2.out.mono ?_; rintro e wx ⟨rfl, h9⟩; subst wx)
    | ((try rw [← HW6.out]); refine wpList_load_mid rfl 29 _ rfl w.heap.size 0 rfl CK _ (Blk.range HGK.out) Try.underlying29 rfl HSZ.out ?_))
  --@m
  refine HMI.out.mono ?_
  rintro e w9 ⟨v9, rfl, y9⟩
  obtain ⟨g9, c9, rfl, hg9, hlt9⟩ := y9.form (by rw [HML.out]; decide)
  rw [HML.out] at y9 ⊢
  have hc99 : 8 ≤ c9 := by_cap y9 HML.out
  have rm := by_rd0 y9
  obtain ⟨wd, hwd⟩ : ∃ wd, wd = w9.drew := ⟨_, rfl⟩
  have kd : ∀ S, Keeps S w9 wd := fun S => by rw [hwd]; exact (Keeps.refl S w9).drew
  have k8d : ∀ S, Keeps S w6 wd := fun S => (y9.keep S).trans (kd S)
  have rr9 := rd_old RR8.out (y9.keep (fun _ => False))
  obtain ⟨o3, ho3⟩ := cutA_form g o c 8
  obtain ⟨o9, ho9⟩ := cutA_form g9 0 c9 8
  obtain ⟨cr, hcr⟩ : ∃ cr, cr = c - 8 := ⟨_, rfl⟩
  obtain ⟨cm, hcm⟩ : ∃ cm, cm = c9 - 8 := ⟨_, rfl⟩
  have t1 : ∀ u, (Instr.slice 27 (.slice (some ⟨g, o, none⟩) m c) none (some (.int .i64 6)) none).run Try.prog u = .ok (.slice (some ⟨g, o, none⟩) 6 c) u := fun u => cut_h (some ⟨g, o, none⟩) m c 6 (by omega) u
  have t2 : ∀ u, (Instr.slice 27 (.slice (some ⟨g9, 0, none⟩) 8 c9) none (some (.int .i64 6)) none).run Try.prog u = .ok (.slice (some ⟨g9, 0, none⟩) 6 c9) u := fun u => cut_h (some ⟨g9, 0, none⟩) 8 c9 6 (by omega) u
  have t3 : ∀ u, (Instr.slice 27 (.slice (some ⟨g, o, none⟩) m c) (some (.int .i64 8)) (some (.int .i64 8)) none).run Try.prog u = .ok (.slice (some ⟨g, o3, none⟩) 0 cr) u := fun u => by rw [hcr, ← ho3]; exact cut_lh (some ⟨g, o, none⟩) m c 8 8 (by omega) (by omega) u
  have t4 : ∀ u, (Instr.slice 27 (.slice (some ⟨g9, 0, none⟩) 8 c9) (some (.int .i64 8)) none none).run Try.prog u = .ok (.slice (some ⟨g9, o9, none⟩) 0 cm) u := fun u => by rw [hcm, ← ho9]; exact cut_l (some ⟨g9, 0, none⟩) 8 c9 8 (by omega) u
  have e1 : (l.take 6).length = 6 := by rw [List.length_take, HL.out.1]; omega
  have e2 : ((mid (ku h l)).take 6).length = 6 := by rw [List.length_take, HML.out]; rfl
  have e3 : ((l.drop 8).take 0).length = 0 := by rw [List.length_take, List.length_drop, HL.out.1]; omega
  have e4 : ((mid (ku h l)).drop 8).length = 0 := by rw [List.length_drop, HML.out]
  have HQ1 : Hid (∀ u, Keeps (fun _ => False) w9 u → Calls Try.prog 30 #[.slice (some ⟨g, o, none⟩) 6 c, .slice (some ⟨g9, 0, none⟩) 6 c9] u fun e w' => e = .returned (.bool false) ∧ w' = u) := Lib.hid (fun u hu => by
    have := equal_ u (some ⟨g, o, none⟩) (some ⟨g9, 0, none⟩) (l.take 6) ((mid (ku h l)).take 6) 6 6 c c9 _ _ e1 e2 (HL.out.2.1.take _) (HSM.out.take _) (rd_take (rd_old rr9 hu) 6) (rd_take (rd_old rm hu) 6) (.inl (by decide)) (.inl (by decide))
    rw [decide_eq_false ha] at this
    exact this)
  have KWD : Hid (∀ S, Keeps S w wd) := Lib.hid (fun S => (KK8.out S).trans (k8d S))
  have HST : Hid (∀ u, Keeps (fun _ => False) wd u → u.there (w.heap.size + 1) 0 zhd.toArray.size ∧ Blk (u.setCells (w.heap.size + 1) 0 zhd) (w.heap.size + 1) 29 zhd ∧ Keeps (· = (w.heap.size + 1)) u (u.setCells (w.heap.size + 1) 0 zhd)) := Lib.hid (fun u hu => p_store (Blk.keeps ZZ8.out ((k8d _).trans hu) (fun z => z)) rfl)
  have HWD := Lib.hid hwd
  have ew : IntKind.i64.wrap 8 = 8 := by decide
  clear hwd kd k8d rr9 rm y9 hg9 hlt9 ho3 ho9 e1 e2 e3 e4 hcr hcm 
  go_wp2_with fail
  --@12
  refine wp_region_held_drew (S := fun _ => True) (by kernel_rfl) trivial (fun hHeld => ?_)
  refine wpAnyH_take (i := 0) (v := ?_) rfl (by kernel_rfl) (by kernel_rfl) (by kernel_rfl) (fun _ _ _ h => h) (Or.inl ⟨by kernel_rfl, ?_⟩) (by assumption) ?_
  rotate_left
  · (intro w hSw; (try dsimp only at hSw); go_simp) <;> (try (with_reducible rfl))
  try simp only [Act.put, Array.getInternal_eq_getElem, List.getElem_toArray, List.getElem_cons_zero, List.getElem_cons_succ, List.setIfInBounds_toArray, List.set_cons_zero, List.set_cons_succ]
  refine wpAnyH_take (i := 1) (v := ?_) rfl (by kernel_rfl) (by kernel_rfl) (by kernel_rfl) (fun _ _ _ h => h) (Or.inl ⟨by kernel_rfl, ?_⟩) (by assumption) ?_
  rotate_left
  · (intro w hSw; (try dsimp only at hSw); go_simp) <;> (try (with_reducible rfl))
  try simp only [Act.put, Array.getInternal_eq_getElem, List.getElem_toArray, List.getElem_cons_zero, List.getElem_cons_succ, List.setIfInBounds_toArray, List.set_cons_zero, List.set_cons_succ]
  refine wpAnyH_take (i := 2) (v := ?_) rfl (by kernel_rfl) (by kernel_rfl) (by kernel_rfl) (fun _ _ _ h => h) (Or.inl ⟨by kernel_rfl, ?_⟩) (by assumption) ?_
  rotate_left
  · (intro w hSw; (try dsimp only at hSw); go_simp) <;> (try (with_reducible rfl))
  try simp only [Act.put, Array.getInternal_eq_getElem, List.getElem_toArray, List.getElem_cons_zero, List.getElem_cons_succ, List.setIfInBounds_toArray, List.set_cons_zero, List.set_cons_succ]
  refine wpAnyH_take (i := 3) (v := ?_) rfl (by kernel_rfl) (by kernel_rfl) (by kernel_rfl) (fun _ _ _ h => h) (Or.inl ⟨by kernel_rfl, ?_⟩) (by assumption) ?_
  rotate_left
  · (intro w hSw; (try dsimp only at hSw); go_simp) <;> (try (with_reducible rfl))
  try simp only [Act.put, Array.getInternal_eq_getElem, List.getElem_toArray, List.getElem_cons_zero, List.getElem_cons_succ, List.setIfInBounds_toArray, List.set_cons_zero, List.set_cons_succ]
  refine wpAnyH_take (i := 4) (v := ?_) rfl (by kernel_rfl) (by kernel_rfl) (by kernel_rfl) (fun _ _ _ h => h) (Or.inl ⟨by kernel_rfl, ?_⟩) (by assumption) ?_
  rotate_left
  · (intro w hSw; (try dsimp only at hSw); go_simp) <;> (try (with_reducible rfl))
  try simp only [Act.put, Array.getInternal_eq_getElem, List.getElem_toArray, List.getElem_cons_zero, List.getElem_cons_succ, List.setIfInBounds_toArray, List.set_cons_zero, List.set_cons_succ]
  refine wpAnyH_take (i := 5) (v := ?_) rfl (by kernel_rfl) (by kernel_rfl) (by kernel_rfl) (fun _ _ _ h => h) (Or.inl ⟨by kernel_rfl, ?_⟩) (by assumption) ?_
  rotate_left
  · (intro w hSw; (try dsimp only at hSw); go_simp) <;> (try (with_reducible rfl))
  try simp only [Act.put, Array.getInternal_eq_getElem, List.getElem_toArray, List.getElem_cons_zero, List.getElem_cons_succ, List.setIfInBounds_toArray, List.set_cons_zero, List.set_cons_succ]
  refine wpAnyH_ready (rs := [6]) (by kernel_rfl) (by simp) ?_
  refine AllReadyH.cons rfl (fun K hK => ?_) AllReadyH.nil
  (rw [if_pos (by kernel_rfl)]; go_simp; go_at_call 30; refine ((HQ1.out _ ((Keeps.refl _ w9).drew))).mono ?_; rintro e wx ⟨rfl, h9⟩; subst wx)
  refine hK.out _ _ trivial (fun hHeld => ?_)
  clear hK K
  try simp only [Act.put, Array.getInternal_eq_getElem, List.getElem_toArray, List.getElem_cons_zero, List.getElem_cons_succ, List.setIfInBounds_toArray, List.set_cons_zero, List.set_cons_succ]
  refine wpAnyH_take (i := 7) (v := ?_) rfl (by kernel_rfl) (by kernel_rfl) (by kernel_rfl) (fun _ _ _ h => h) (Or.inl ⟨by kernel_rfl, ?_⟩) (by assumption) ?_
  rotate_left
  · (intro w hSw; (try dsimp only at hSw); go_simp) <;> (try (with_reducible rfl))
  try simp only [Act.put, Array.getInternal_eq_getElem, List.getElem_toArray, List.getElem_cons_zero, List.getElem_cons_succ, List.setIfInBounds_toArray, List.set_cons_zero, List.set_cons_succ]
  refine wpAnyH_take (i := 8) (v := ?_) rfl (by kernel_rfl) (by kernel_rfl) (by kernel_rfl) (fun _ _ _ h => h) (Or.inl ⟨by kernel_rfl, ?_⟩) (by assumption) ?_
  rotate_left
  · (intro w hSw; (try dsimp only at hSw); go_simp) <;> (try (with_reducible rfl))
  try simp only [Act.put, Array.getInternal_eq_getElem, List.getElem_toArray, List.getElem_cons_zero, List.getElem_cons_succ, List.setIfInBounds_toArray, List.set_cons_zero, List.set_cons_succ]
  refine wpAnyH_take (i := 9) (v := undef) rfl (by kernel_rfl) (by kernel_rfl) (by kernel_rfl) (fun _ _ _ h => h) (Or.inr ⟨by kernel_rfl, rfl⟩) (by assumption) ?_
  try simp only [Act.put, Array.getInternal_eq_getElem, List.getElem_toArray, List.getElem_cons_zero, List.getElem_cons_succ, List.setIfInBounds_toArray, List.set_cons_zero, List.set_cons_succ]
  refine wpAnyH_take (i := 10) (v := undef) rfl (by kernel_rfl) (by kernel_rfl) (by kernel_rfl) (fun _ _ _ h => h) (Or.inr ⟨by kernel_rfl, rfl⟩) (by assumption) ?_
  try simp only [Act.put, Array.getInternal_eq_getElem, List.getElem_toArray, List.getElem_cons_zero, List.getElem_cons_succ, List.setIfInBounds_toArray, List.set_cons_zero, List.set_cons_succ]
  refine wpAnyH_take (i := 11) (v := undef) rfl (by kernel_rfl) (by kernel_rfl) (by kernel_rfl) (fun _ _ _ h => h) (Or.inr ⟨by kernel_rfl, rfl⟩) (by assumption) ?_
  try simp only [Act.put, Array.getInternal_eq_getElem, List.getElem_toArray, List.getElem_cons_zero, List.getElem_cons_succ, List.setIfInBounds_toArray, List.set_cons_zero, List.set_cons_succ]
  refine wpAnyH_take (i := 12) (v := undef) rfl (by kernel_rfl) (by kernel_rfl) (by kernel_rfl) (fun _ _ _ h => h) (Or.inr ⟨by kernel_rfl, rfl⟩) (by assumption) ?_
  try simp only [Act.put, Array.getInternal_eq_getElem, List.getElem_toArray, List.getElem_cons_zero, List.getElem_cons_succ, List.setIfInBounds_toArray, List.set_cons_zero, List.set_cons_succ]
  refine wpAnyH_take (i := 13) (v := undef) rfl (by kernel_rfl) (by kernel_rfl) (by kernel_rfl) (fun _ _ _ h => h) (Or.inr ⟨by kernel_rfl, rfl⟩) (by assumption) ?_
  try simp only [Act.put, Array.getInternal_eq_getElem, List.getElem_toArray, List.getElem_cons_zero, List.getElem_cons_succ, List.setIfInBounds_toArray, List.set_cons_zero, List.set_cons_succ]
  refine wpAnyH_take (i := 14) (v := undef) rfl (by kernel_rfl) (by kernel_rfl) (by kernel_rfl) (fun _ _ _ h => h) (Or.inr ⟨by kernel_rfl, rfl⟩) (by assumption) ?_
  try simp only [Act.put, Array.getInternal_eq_getElem, List.getElem_toArray, List.getElem_cons_zero, List.getElem_cons_succ, List.setIfInBounds_toArray, List.set_cons_zero, List.set_cons_succ]
  refine wpAnyH_take (i := 15) (v := undef) rfl (by kernel_rfl) (by kernel_rfl) (by kernel_rfl) (fun _ _ _ h => h) (Or.inr ⟨by kernel_rfl, rfl⟩) (by assumption) ?_
  try simp only [Act.put, Array.getInternal_eq_getElem, List.getElem_toArray, List.getElem_cons_zero, List.getElem_cons_succ, List.setIfInBounds_toArray, List.set_cons_zero, List.set_cons_succ]
  refine wpAnyH_take (i := 16) (v := undef) rfl (by kernel_rfl) (by kernel_rfl) (by kernel_rfl) (fun _ _ _ h => h) (Or.inr ⟨by kernel_rfl, rfl⟩) (by assumption) ?_
  try simp only [Act.put, Array.getInternal_eq_getElem, List.getElem_toArray, List.getElem_cons_zero, List.getElem_cons_succ, List.setIfInBounds_toArray, List.set_cons_zero, List.set_cons_succ]
  refine wpAnyH_take (i := 17) (v := undef) rfl (by kernel_rfl) (by kernel_rfl) (by kernel_rfl) (fun _ _ _ h => h) (Or.inr ⟨by kernel_rfl, rfl⟩) (by assumption) ?_
  try simp only [Act.put, Array.getInternal_eq_getElem, List.getElem_toArray, List.getElem_cons_zero, List.getElem_cons_succ, List.setIfInBounds_toArray, List.set_cons_zero, List.set_cons_succ]
  refine wpAnyH_take (i := 18) (v := undef) rfl (by kernel_rfl) (by kernel_rfl) (by kernel_rfl) (fun _ _ _ h => h) (Or.inr ⟨by kernel_rfl, rfl⟩) (by assumption) ?_
  try simp only [Act.put, Array.getInternal_eq_getElem, List.getElem_toArray, List.getElem_cons_zero, List.getElem_cons_succ, List.setIfInBounds_toArray, List.set_cons_zero, List.set_cons_succ]
  refine wpAnyH_take (i := 19) (v := undef) rfl (by kernel_rfl) (by kernel_rfl) (by kernel_rfl) (fun _ _ _ h => h) (Or.inr ⟨by kernel_rfl, rfl⟩) (by assumption) ?_
  try simp only [Act.put, Array.getInternal_eq_getElem, List.getElem_toArray, List.getElem_cons_zero, List.getElem_cons_succ, List.setIfInBounds_toArray, List.set_cons_zero, List.set_cons_succ]
  refine wpAnyH_take (i := 20) (v := ?_) rfl (by kernel_rfl) (by kernel_rfl) (by kernel_rfl) (fun _ _ _ h => h) (Or.inl ⟨by kernel_rfl, ?_⟩) (by assumption) ?_
  rotate_left
  · (intro w hSw; (try dsimp only at hSw); go_simp) <;> (try (with_reducible rfl))
  try simp only [Act.put, Array.getInternal_eq_getElem, List.getElem_toArray, List.getElem_cons_zero, List.getElem_cons_succ, List.setIfInBounds_toArray, List.set_cons_zero, List.set_cons_succ]
  refine wpAnyH_done ?_ ?_ _
  · kernel_rfl
  rw [← HWD.out]
  go_wp2_with (first
    | (refine p_build rfl 29 _ rfl _ rfl _ HZB.out ?_)
    | (refine' wpList_store_mid rfl 29 _ _ rfl (w.heap.size + 1) 0 (zhd).toArray ?hx rfl ?ht HZI.out HZO.out ?_; (case hx => rfl); (case ht => exact (HST.out _ (Keeps.refl _ wd)).1)))
  try rw [Exit.noGoto_ret]
  refine bodyPost_ret (Go.Proofs.Ytidengmcbppcoaa.wh.ret_cell (p := 4) (u := 5) (ty := 29) (by kernel_rfl) _ _ _ (w.heap.size + 1) _ _ _ (by rfl) (HST.out _ (Keeps.refl _ wd)).2.1 Try.underlying29 rfl HZI.out) rfl ?_
  exact ⟨nul, rfl, By.nil_ (keeps_own KWD.out (HST.out _ (Keeps.refl _ wd)).2.2 (by omega))⟩
set_option maxRecDepth 100000 in
set_option maxHeartbeats 2000000 in
theorem rru_iii (h : Hd) (hw : h.Wf) (g o m c B : Nat) (l : List Nat) (hl : l.length = m) (hm : m ≤ 140737480000000) (hc : m ≤ c) (hc9 : c ≤ 9223372036854775807) (hs : Small l) (hr : Rd w B (some ⟨g, o, none⟩) (by_ l)) (hB : B ≤ w.heap.size) (hp : h.pr = 17) (hk : 8 ≤ m) (ha : l.take 6 = (mid (ku h l)).take 6) (hb : (l.drop 8).take 0 = (mid (ku h l)).drop 8) (hx : num2 l 6 ≠ sumv (ku h l) l) :
    Calls Try.prog 52 #[hvv h nul, .slice (some ⟨g, o, none⟩) m c] w fun e w' => RK w w' e (hz, 162) := by
  unfold RK
  dsimp only
  obtain ⟨w2, hw2, k2, bG, bZ, s2⟩ := box2 w (hcs h nul) zhd 29 29
  dsimp only [zhd] at hw2
  obtain ⟨w3, hw3⟩ : ∃ w3, w3 = w2.drew := ⟨_, rfl⟩
  have k23 : ∀ S, Keeps S w2 w3 := fun S => by rw [hw3]; exact (Keeps.refl S w2).drew
  have k3 : ∀ S, Keeps S w w3 := fun S => (k2 S).trans (k23 S)
  have b3G := Blk.keeps bG (k23 (fun _ => False)) (fun z => z)
  have b3Z := Blk.keeps bZ (k23 (fun _ => False)) (fun z => z)
  have s3 : w3.heap.size = w.heap.size + 2 := by rw [hw3]; exact s2
  have hr3 := rd_old hr (k3 (fun _ => False))
  have HPR : Hid (∀ wq, Keeps (fun _ => False) w2 wq → wq.cell? ⟨w.heap.size, 34, none⟩ = some (.int .u8 (h.pr : Int))) := Lib.hid (fun wq kq => (HF.of_blk hw (Blk.keeps bG kq (fun z => z))).pr)
  have HM : ∀ u, Hid (Calls Try.prog 41 #[.int .u8 (h.pr : Int)] u fun e w' => e = .returned (.int .i64 8) ∧ w' = u) := fun u => Lib.hid (by have := pmids_ u h.pr; rw [show mids h.pr = 8 from by rw [hp]; rfl] at this; exact this)
  have HS : ∀ u, Hid (Calls Try.prog 35 #[.int .u8 (h.pr : Int)] u fun e w' => e = .returned (.int .i64 6) ∧ w' = u) := fun u => Lib.hid (by have := psat_ u h.pr; rw [show sat h.pr = 6 from by rw [hp]; rfl] at this; exact this)
  have HZI := Lib.hid zhd_info
  have HZB := Lib.hid zhd_built
  have HZO := Lib.hid (all_oneCell_toArray zhd_one)
  have HWF := Lib.hid hw
  have HW2 := Lib.hid hw2
  have HW3 := Lib.hid hw3
  have HB3 := Lib.hid b3G
  have HZ3 := Lib.hid b3Z
  have K3 := Lib.hid k3
  have S3 := Lib.hid s3
  have HL := Lib.hid (And.intro hl (And.intro hs hB))
  have HR3 := Lib.hid hr3
  obtain ⟨o2, ho2⟩ := cutA_form g o c 8
  obtain ⟨n4, hn4⟩ : ∃ n4, n4 = m - 8 := ⟨_, rfl⟩
  obtain ⟨c5, hc5⟩ : ∃ c5, c5 = c - 8 := ⟨_, rfl⟩
  have q1 : ∀ u, (Instr.slice 27 (.slice (some ⟨g, o, none⟩) m c) (some (.int .i64 8)) none none).run Try.prog u = .ok (.slice (some ⟨g, o2, none⟩) n4 c5) u := fun u => by rw [hn4, hc5, ← ho2]; exact cut_l (some ⟨g, o, none⟩) m c 8 (by omega) u
  have hrd := rd_cut hr3 (c := c) 8 (by omega)
  rw [ho2] at hrd
  have hdl : (l.drop 8).length = n4 := by rw [List.length_drop]; omega
  have HDL := Lib.hid hdl
  have HCN : Hid (Calls Try.prog 64 #[.slice (some ⟨g, o2, none⟩) n4 c5] w3 fun e w' => ∃ v, e = .returned v ∧ By w3 w' v (l.drop 8)) := Lib.hid (clone_ w3 g o2 n4 c5 B (l.drop 8) hdl (by omega) hrd)
  have d1 : ¬ (m : Int) < 8 := by omega
  have nb : n4 ≤ 140737480000000 := by omega
  clear ho2 hrd hdl hn4 hc5
  have HP := Lib.hid hp
  unfold hvv
  clear hw2 k2 bG bZ s2 hw3 k23 k3 b3G b3Z s3 hr3 hr hB hw hp
  generalize hC : hcs h nul = C at *
  go_enter Try.func52, Try.ntmps52
  go_wp2_with fail
  try rw [← HW2.out]
  refine wp_region_held_drew (S := fun w' => w'.cell? ⟨w.heap.size, 34, none⟩ = some (.int .u8 (h.pr : Int))) (by kernel_rfl) (HPR.out _ ((Keeps.refl _ w2).drew)) (fun hHeld => ?_)
  refine wpAnyH_take (i := 0) (v := ?_) rfl (by kernel_rfl) (by kernel_rfl) (by kernel_rfl) (fun _ _ _ h => h) (Or.inl ⟨by kernel_rfl, ?_⟩) (by assumption) ?_
  rotate_left
  · (intro w hSw; (try dsimp only at hSw); go_simp) <;> (try (with_reducible rfl))
  try simp only [Act.put, Array.getInternal_eq_getElem, List.getElem_toArray, List.getElem_cons_zero, List.getElem_cons_succ, List.setIfInBounds_toArray, List.set_cons_zero, List.set_cons_succ]
  refine wpAnyH_take (i := 1) (v := ?_) rfl (by kernel_rfl) (by kernel_rfl) (by kernel_rfl) (fun _ _ _ h => h) (Or.inl ⟨by kernel_rfl, ?_⟩) (by assumption) ?_
  rotate_left
  · (intro w hSw; have hcell := hSw; go_simp) <;> (try (with_reducible rfl))
  try simp only [Act.put, Array.getInternal_eq_getElem, List.getElem_toArray, List.getElem_cons_zero, List.getElem_cons_succ, List.setIfInBounds_toArray, List.set_cons_zero, List.set_cons_succ]
  refine wpAnyH_take (i := 3) (v := ?_) rfl (by kernel_rfl) (by kernel_rfl) (by kernel_rfl) (fun _ _ _ h => h) (Or.inl ⟨by kernel_rfl, ?_⟩) (by assumption) ?_
  rotate_left
  · (intro w hSw; (try dsimp only at hSw); go_simp) <;> (try (with_reducible rfl))
  try simp only [Act.put, Array.getInternal_eq_getElem, List.getElem_toArray, List.getElem_cons_zero, List.getElem_cons_succ, List.setIfInBounds_toArray, List.set_cons_zero, List.set_cons_succ]
  refine wpAnyH_take (i := 4) (v := ?_) rfl (by kernel_rfl) (by kernel_rfl) (by kernel_rfl) (fun _ _ _ h => h) (Or.inl ⟨by kernel_rfl, ?_⟩) (by assumption) ?_
  rotate_left
  · (intro w hSw; have hcell := hSw; go_simp) <;> (try (with_reducible rfl))
  try simp only [Act.put, Array.getInternal_eq_getElem, List.getElem_toArray, List.getElem_cons_zero, List.getElem_cons_succ, List.setIfInBounds_toArray, List.set_cons_zero, List.set_cons_succ]
  refine wpAnyH_ready (rs := [2]) (by kernel_rfl) (by simp) ?_
  refine AllReadyH.cons rfl (fun K hK => ?_) AllReadyH.nil
  (rw [if_pos (by kernel_rfl)]; go_simp; go_at_call 41; refine ((HM _).out).mono ?_; rintro e wx ⟨rfl, h9⟩; subst wx)
  refine hK.out _ _ (HPR.out _ ((Keeps.refl _ w2).drew)) (fun hHeld => ?_)
  clear hK K
  try simp only [Act.put, Array.getInternal_eq_getElem, List.getElem_toArray, List.getElem_cons_zero, List.getElem_cons_succ, List.setIfInBounds_toArray, List.set_cons_zero, List.set_cons_succ]
  refine wpAnyH_ready (rs := [5]) (by kernel_rfl) (by simp) ?_
  refine AllReadyH.cons rfl (fun K hK => ?_) AllReadyH.nil
  (rw [if_pos (by kernel_rfl)]; go_simp; go_at_call 35; refine ((HS _).out).mono ?_; rintro e wx ⟨rfl, h9⟩; subst wx)
  refine hK.out _ _ (HPR.out _ ((Keeps.refl _ w2).drew)) (fun hHeld => ?_)
  clear hK K
  try simp only [Act.put, Array.getInternal_eq_getElem, List.getElem_toArray, List.getElem_cons_zero, List.getElem_cons_succ, List.setIfInBounds_toArray, List.set_cons_zero, List.set_cons_succ]
  refine wpAnyH_take (i := 6) (v := ?_) rfl (by kernel_rfl) (by kernel_rfl) (by kernel_rfl) (fun _ _ _ h => h) (Or.inl ⟨by kernel_rfl, ?_⟩) (by assumption) ?_
  rotate_left
  · (intro w hSw; (try dsimp only at hSw); go_simp) <;> (try (with_reducible rfl))
  try simp only [Act.put, Array.getInternal_eq_getElem, List.getElem_toArray, List.getElem_cons_zero, List.getElem_cons_succ, List.setIfInBounds_toArray, List.set_cons_zero, List.set_cons_succ]
  refine wpAnyH_take (i := 7) (v := ?_) rfl (by kernel_rfl) (by kernel_rfl) (by kernel_rfl) (fun _ _ _ h => h) (Or.inl ⟨by kernel_rfl, ?_⟩) (by assumption) ?_
  rotate_left
  · (intro w hSw; (try dsimp only at hSw); go_simp) <;> (try (with_reducible rfl))
  try simp only [Act.put, Array.getInternal_eq_getElem, List.getElem_toArray, List.getElem_cons_zero, List.getElem_cons_succ, List.setIfInBounds_toArray, List.set_cons_zero, List.set_cons_succ]
  refine wpAnyH_done ?_ ?_ _
  · kernel_rfl
  rw [← HW3.out]
  go_wp2_with fail
  refine HCN.out.mono ?_
  rintro e w4 ⟨v, rfl, y4⟩
  obtain ⟨A4, c4, rfl, r4⟩ := y4.rd
  rw [HDL.out] at y4 ⊢
  have s3 := S3.out
  have ne4 : ¬ (Value.slice A4 n4 c4).ownBlock = some w.heap.size := y4.apart (by omega)
  have ne4z : ¬ (Value.slice A4 n4 c4).ownBlock = some (w.heap.size + 1) := y4.apart (by omega)
  have y4w : By w w4 (.slice A4 n4 c4) (l.drop 8) := y4.base K3.out
  have g4 := Blk.keeps HB3.out (y4.keep (fun _ => False)) (fun z => z)
  have z4 := Blk.keeps HZ3.out (y4.keep (fun _ => False)) (fun z => z)
  rw [← hC] at g4
  have rr4 := rd_old HR3.out (y4.keep (fun _ => False))
  have kk4 : ∀ S, Keeps S w w4 := fun S => (K3.out S).trans (y4.keep S)
  have sz4 : w.heap.size + 2 ≤ w4.heap.size := by have := (y4.keep (fun _ => False)).size; omega
  have h1 := HWF.out.s
  have h2 := HWF.out.d
  have c42 : (w4).cell? ⟨w.heap.size, 42, none⟩ = some _ := h_cell g4 h1 h2 8 _ rfl
  have f42 : (w4).frozen? ⟨w.heap.size, 42, none⟩ = false := g4.frozen 42
  obtain ⟨w5, hw5⟩ : ∃ w5, w5 = w4.setCell ⟨w.heap.size, 42, none⟩ (.slice A4 n4 c4) := ⟨_, rfl⟩
  have g5 := st_dat g4 h1 h2 (.slice A4 n4 c4) (l.drop 8)
  have p5 : Keeps (· = w.heap.size) w4 (w4.setCell ⟨w.heap.size, 42, none⟩ (.slice A4 n4 c4)) := keeps_put (Keeps.refl _ w4) 42 _
  rw [← hw5] at g5 p5
  have HW5 := Lib.hid hw5
  clear hw5
  have c35 : (w5).cell? ⟨w.heap.size, 35, none⟩ = some _ := h_cell g5 h1 h2 1 _ rfl
  have f35 : (w5).frozen? ⟨w.heap.size, 35, none⟩ = false := g5.frozen 35
  obtain ⟨x0, hx0⟩ : ∃ x0, x0 = num2 l 0 := ⟨_, rfl⟩
  obtain ⟨x2, hx2⟩ : ∃ x2, x2 = num2 l 2 := ⟨_, rfl⟩
  have g6a := st_sp g5 h1 h2 x0
  have c36 : (w5.setCell ⟨w.heap.size, 35, none⟩ (.int .u16 (x0 : Int))).cell? ⟨w.heap.size, 36, none⟩ = some _ := h_cell g6a h1 h2 2 _ rfl
  have f36 : (w5.setCell ⟨w.heap.size, 35, none⟩ (.int .u16 (x0 : Int))).frozen? ⟨w.heap.size, 36, none⟩ = false := g6a.frozen 36
  have g6 := st_dp g6a h1 h2 x2
  obtain ⟨w6, hw6⟩ : ∃ w6, w6 = (w5.setCell ⟨w.heap.size, 35, none⟩ (.int .u16 (x0 : Int))).setCell ⟨w.heap.size, 36, none⟩ (.int .u16 (x2 : Int)) := ⟨_, rfl⟩
  have p6 : Keeps (· = w.heap.size) w4 ((w5.setCell ⟨w.heap.size, 35, none⟩ (.int .u16 (x0 : Int))).setCell ⟨w.heap.size, 36, none⟩ (.int .u16 (x2 : Int))) := keeps_put (keeps_put p5 35 _) 36 _
  have c34 : ((w5.setCell ⟨w.heap.size, 35, none⟩ (.int .u16 (x0 : Int))).setCell ⟨w.heap.size, 36, none⟩ (.int .u16 (x2 : Int))).cell? ⟨w.heap.size, 34, none⟩ = some (.int .u8 (h.pr : Int)) := h_cell g6 h1 h2 0 _ rfl
  rw [← hw6] at g6 p6
  have HW6 := Lib.hid hw6
  clear hw6
  have hp := HP.out
  have gk : Blk w6 w.heap.size 29 (hcs (ku h l) (.slice A4 n4 c4)) := by
    subst hx0 hx2
    exact g6
  have hBG : B ≤ w.heap.size := HL.out.2.2
  have hl := HL.out.1
  have hs := HL.out.2.1
  have hwk : (ku h l).Wf := ku_wf HWF.out hs
  have rr5 := rd_put rr4 p5 hBG
  have rr6 := rd_put rr4 p6 hBG
  have rr8 := rd_put rr4 p6 hBG
  have HN0 : Hid (Calls Try.prog 65 #[.slice (some ⟨g, o, none⟩) m c, .int .i64 0] w5 fun e w' => e = .returned (.int .u16 (x0 : Nat)) ∧ w5 = w') := Lib.hid (by rw [hx0]; exact number_ w5 (some ⟨g, o, none⟩) l m c B 0 hl (by omega) hc hc9 hs rr5 (by omega))
  have HN2 : Hid (Calls Try.prog 65 #[.slice (some ⟨g, o, none⟩) m c, .int .i64 2] w5 fun e w' => e = .returned (.int .u16 (x2 : Nat)) ∧ w5 = w') := Lib.hid (by rw [hx2]; exact number_ w5 (some ⟨g, o, none⟩) l m c B 2 hl (by omega) hc hc9 hs rr5 (by omega))
  have d6 : ((h.pr : Int) == 6) = false := beq_eq_false_iff_ne.2 (by omega)
  have hkd : (ku h l).dat.length = n4 := HDL.out
  have HMI : Hid (Calls Try.prog 34 #[hvv (ku h l) (.slice A4 n4 c4)] w6 fun e w' => ∃ v, e = .returned v ∧ By w6 w' v (mid (ku h l))) := Lib.hid (middle_ w6 (ku h l) A4 n4 c4 hwk hkd (by omega))
  have hml : (mid (ku h l)).length = 8 := by rw [mid_len]; show mids h.pr = 8; rw [hp]; rfl
  have HML := Lib.hid hml
  have HSM := Lib.hid (mid_small hwk)
  have HSZ := Lib.hid (hd_sz hwk (.slice A4 n4 c4))
  have HSO := Lib.hid (all_oneCell_toArray (hcs_one (h := (ku h l)) (v := .slice A4 n4 c4) rfl))
  have HGK := Lib.hid gk
  have kk8 : ∀ S, Keeps S w w6 := keeps_own kk4 p6 (Nat.le_refl _)
  have KK8 := Lib.hid kk8
  have ZZ8 := Lib.hid (Blk.keeps z4 p6 (by omega))
  have Y8 := Lib.hid (past_ y4w p6 (Nat.le_refl _) ne4)
  have NZ := Lib.hid ne4z
  have RR8 := Lib.hid rr8
  have SZ8 : Hid (w.heap.size + 2 ≤ w6.heap.size) := Lib.hid (by have := p6.size; omega)
  have HKD := Lib.hid hkd
  have HWK := Lib.hid hwk
  have hpk : (ku h l).pr = 17 := hp
  have HPK := Lib.hid hpk
  clear s3 ne4 ne4z y4w g4 z4 rr4 kk4 sz4 h1 h2 g5 p5 gk hwk y4 r4 g6a g6 p6  hBG rr5 rr6 rr8 hkd kk8 hx0 hx2 hs hl hml hpk hp
  unfold hvv at HMI
  generalize hCK : hcs (ku h l) (.slice A4 n4 c4) = CK at *
  have HCK := Lib.hid hCK
  clear hCK
  go_wp2_with (first
    | ((with_reducible show Calls _ 65 #[_, .int .i64 0] _ _); (try rw [← HW5.out]); refine HN0.out.mono ?_; rintro e wx ⟨rfl, h9⟩; subst wx)
    | ((with_reducible show Calls _ 65 #[_, .int .i64 2] _ _); refine HN2.out.mono ?_; rintro e wx ⟨rfl, h9⟩; subst wx)
    | ((try rw [← HW6.out]); refine wpList_load_mid rfl 29 _ rfl w.heap.size 0 rfl CK _ (Blk.range HGK.out) Try.underlying29 rfl HSZ.out ?_))
  --@m
  refine HMI.out.mono ?_
  rintro e w9 ⟨v9, rfl, y9⟩
  obtain ⟨g9, c9, rfl, hg9, hlt9⟩ := y9.form (by rw [HML.out]; decide)
  rw [HML.out] at y9 ⊢
  have hc99 : 8 ≤ c9 := by_cap y9 HML.out
  have rm := by_rd0 y9
  obtain ⟨wd, hwd⟩ : ∃ wd, wd = w9.drew := ⟨_, rfl⟩
  have kd : ∀ S, Keeps S w9 wd := fun S => by rw [hwd]; exact (Keeps.refl S w9).drew
  have k8d : ∀ S, Keeps S w6 wd := fun S => (y9.keep S).trans (kd S)
  have rr9 := rd_old RR8.out (y9.keep (fun _ => False))
  obtain ⟨o3, ho3⟩ := cutA_form g o c 8
  obtain ⟨o9, ho9⟩ := cutA_form g9 0 c9 8
  obtain ⟨cr, hcr⟩ : ∃ cr, cr = c - 8 := ⟨_, rfl⟩
  obtain ⟨cm, hcm⟩ : ∃ cm, cm = c9 - 8 := ⟨_, rfl⟩
  have t1 : ∀ u, (Instr.slice 27 (.slice (some ⟨g, o, none⟩) m c) none (some (.int .i64 6)) none).run Try.prog u = .ok (.slice (some ⟨g, o, none⟩) 6 c) u := fun u => cut_h (some ⟨g, o, none⟩) m c 6 (by omega) u
  have t2 : ∀ u, (Instr.slice 27 (.slice (some ⟨g9, 0, none⟩) 8 c9) none (some (.int .i64 6)) none).run Try.prog u = .ok (.slice (some ⟨g9, 0, none⟩) 6 c9) u := fun u => cut_h (some ⟨g9, 0, none⟩) 8 c9 6 (by omega) u
  have t3 : ∀ u, (Instr.slice 27 (.slice (some ⟨g, o, none⟩) m c) (some (.int .i64 8)) (some (.int .i64 8)) none).run Try.prog u = .ok (.slice (some ⟨g, o3, none⟩) 0 cr) u := fun u => by rw [hcr, ← ho3]; exact cut_lh (some ⟨g, o, none⟩) m c 8 8 (by omega) (by omega) u
  have t4 : ∀ u, (Instr.slice 27 (.slice (some ⟨g9, 0, none⟩) 8 c9) (some (.int .i64 8)) none none).run Try.prog u = .ok (.slice (some ⟨g9, o9, none⟩) 0 cm) u := fun u => by rw [hcm, ← ho9]; exact cut_l (some ⟨g9, 0, none⟩) 8 c9 8 (by omega) u
  have e1 : (l.take 6).length = 6 := by rw [List.length_take, HL.out.1]; omega
  have e2 : ((mid (ku h l)).take 6).length = 6 := by rw [List.length_take, HML.out]; rfl
  have e3 : ((l.drop 8).take 0).length = 0 := by rw [List.length_take, List.length_drop, HL.out.1]; omega
  have e4 : ((mid (ku h l)).drop 8).length = 0 := by rw [List.length_drop, HML.out]
  have HQ1 : Hid (∀ u, Keeps (fun _ => False) w9 u → Calls Try.prog 30 #[.slice (some ⟨g, o, none⟩) 6 c, .slice (some ⟨g9, 0, none⟩) 6 c9] u fun e w' => e = .returned (.bool true) ∧ w' = u) := Lib.hid (fun u hu => by
    have := equal_ u (some ⟨g, o, none⟩) (some ⟨g9, 0, none⟩) (l.take 6) ((mid (ku h l)).take 6) 6 6 c c9 _ _ e1 e2 (HL.out.2.1.take _) (HSM.out.take _) (rd_take (rd_old rr9 hu) 6) (rd_take (rd_old rm hu) 6) (.inl (by decide)) (.inl (by decide))
    rw [decide_eq_true ha] at this
    exact this)
  have HQ2 : Hid (∀ u, Keeps (fun _ => False) w9 u → Calls Try.prog 30 #[.slice (some ⟨g, o3, none⟩) 0 cr, .slice (some ⟨g9, o9, none⟩) 0 cm] u fun e w' => e = .returned (.bool true) ∧ w' = u) := Lib.hid (fun u hu => by
    have r3 := rd_take (rd_cut (rd_old rr9 hu) (c := c) 8 (by rw [HL.out.1]; exact hc)) 0
    have r4 := rd_cut (rd_old rm hu) (c := c9) 8 (by rw [HML.out]; exact hc99)
    rw [ho3] at r3
    rw [ho9] at r4
    have := equal_ u (some ⟨g, o3, none⟩) (some ⟨g9, o9, none⟩) _ _ 0 0 cr cm _ _ e3 e4 ((HL.out.2.1.drop _).take _) (HSM.out.drop _) r3 r4 (.inr (.inr ⟨_, _, rfl⟩)) (.inr (.inr ⟨_, _, rfl⟩))
    rw [decide_eq_true hb] at this
    exact this)
  have KWD : Hid (∀ S, Keeps S w wd) := Lib.hid (fun S => (KK8.out S).trans (k8d S))
  have HST : Hid (∀ u, Keeps (fun _ => False) wd u → u.there (w.heap.size + 1) 0 zhd.toArray.size ∧ Blk (u.setCells (w.heap.size + 1) 0 zhd) (w.heap.size + 1) 29 zhd ∧ Keeps (· = (w.heap.size + 1)) u (u.setCells (w.heap.size + 1) 0 zhd)) := Lib.hid (fun u hu => p_store (Blk.keeps ZZ8.out ((k8d _).trans hu) (fun z => z)) rfl)
  have rr9d := rd_old rr9 (kd (fun _ => False))
  have HNS : Hid (∀ u, Keeps (fun _ => False) wd u → Calls Try.prog 65 #[.slice (some ⟨g, o, none⟩) m c, .int .i64 6] u fun e w' => e = .returned (.int .u16 (num2 l 6 : Nat)) ∧ u = w') := Lib.hid (fun u hu => number_ u (some ⟨g, o, none⟩) l m c B 6 HL.out.1 (by omega) hc hc9 HL.out.2.1 (rd_old rr9d hu) (by omega))
  have HSU : Hid (∀ u, Keeps (fun _ => False) wd u → Calls Try.prog 37 #[.agg CK.toArray, .slice (some ⟨g, o, none⟩) m c] u fun e w' => e = .returned (.int .u16 (sumv (ku h l) l : Nat)) ∧ ∀ S, Keeps S u w') := Lib.hid (fun u hu => by
    have := sumof_ u (ku h l) A4 n4 c4 HWK.out (some ⟨g, o, none⟩) m c B l HL.out.1 (by rw [HPK.out]; show 6 + 2 ≤ m; omega) (by omega) hc HL.out.2.1 (rd_old rr9d hu) (by have := hu.size; have := (KWD.out (fun _ => False)).size; have := HL.out.2.2; omega) (by rw [HPK.out]; decide)
    unfold hvv at this
    rw [HCK.out] at this
    exact this)
  have RG : Hid (∀ wq, Keeps (fun _ => False) wd wq → wq.rangeAt w.heap.size 0 CK) := Lib.hid (fun wq kq => Blk.range (Blk.keeps HGK.out ((k8d _).trans kq) (fun z => z)))
  have dx : (((num2 l 6 : Nat) : Int) != ((sumv (ku h l) l : Nat) : Int)) = true := bne_iff_ne.2 (by omega)
  have YD : Hid (By w wd (.slice A4 n4 c4) (ku h l).dat) := Lib.hid (Y8.out.grown k8d)
  generalize num2 l 6 = na at *
  generalize sumv (ku h l) l = sv at *
  have HWD := Lib.hid hwd
  have ew : IntKind.i64.wrap 8 = 8 := by decide
  clear hwd kd k8d rr9 rm y9 hg9 hlt9 ho3 ho9 e1 e2 e3 e4 hcr hcm rr9d hx
  go_wp2_with fail
  --@12
  refine wp_region_held_drew (S := fun _ => True) (by kernel_rfl) trivial (fun hHeld => ?_)
  refine wpAnyH_take (i := 0) (v := ?_) rfl (by kernel_rfl) (by kernel_rfl) (by kernel_rfl) (fun _ _ _ h => h) (Or.inl ⟨by kernel_rfl, ?_⟩) (by assumption) ?_
  rotate_left
  · (intro w hSw; (try dsimp only at hSw); go_simp) <;> (try (with_reducible rfl))
  try simp only [Act.put, Array.getInternal_eq_getElem, List.getElem_toArray, List.getElem_cons_zero, List.getElem_cons_succ, List.setIfInBounds_toArray, List.set_cons_zero, List.set_cons_succ]
  refine wpAnyH_take (i := 1) (v := ?_) rfl (by kernel_rfl) (by kernel_rfl) (by kernel_rfl) (fun _ _ _ h => h) (Or.inl ⟨by kernel_rfl, ?_⟩) (by assumption) ?_
  rotate_left
  · (intro w hSw; (try dsimp only at hSw); go_simp) <;> (try (with_reducible rfl))
  try simp only [Act.put, Array.getInternal_eq_getElem, List.getElem_toArray, List.getElem_cons_zero, List.getElem_cons_succ, List.setIfInBounds_toArray, List.set_cons_zero, List.set_cons_succ]
  refine wpAnyH_take (i := 2) (v := ?_) rfl (by kernel_rfl) (by kernel_rfl) (by kernel_rfl) (fun _ _ _ h => h) (Or.inl ⟨by kernel_rfl, ?_⟩) (by assumption) ?_
  rotate_left
  · (intro w hSw; (try dsimp only at hSw); go_simp) <;> (try (with_reducible rfl))
  try simp only [Act.put, Array.getInternal_eq_getElem, List.getElem_toArray, List.getElem_cons_zero, List.getElem_cons_succ, List.setIfInBounds_toArray, List.set_cons_zero, List.set_cons_succ]
  refine wpAnyH_take (i := 3) (v := ?_) rfl (by kernel_rfl) (by kernel_rfl) (by kernel_rfl) (fun _ _ _ h => h) (Or.inl ⟨by kernel_rfl, ?_⟩) (by assumption) ?_
  rotate_left
  · (intro w hSw; (try dsimp only at hSw); go_simp) <;> (try (with_reducible rfl))
  try simp only [Act.put, Array.getInternal_eq_getElem, List.getElem_toArray, List.getElem_cons_zero, List.getElem_cons_succ, List.setIfInBounds_toArray, List.set_cons_zero, List.set_cons_succ]
  refine wpAnyH_take (i := 4) (v := ?_) rfl (by kernel_rfl) (by kernel_rfl) (by kernel_rfl) (fun _ _ _ h => h) (Or.inl ⟨by kernel_rfl, ?_⟩) (by assumption) ?_
  rotate_left
  · (intro w hSw; (try dsimp only at hSw); go_simp) <;> (try (with_reducible rfl))
  try simp only [Act.put, Array.getInternal_eq_getElem, List.getElem_toArray, List.getElem_cons_zero, List.getElem_cons_succ, List.setIfInBounds_toArray, List.set_cons_zero, List.set_cons_succ]
  refine wpAnyH_take (i := 5) (v := ?_) rfl (by kernel_rfl) (by kernel_rfl) (by kernel_rfl) (fun _ _ _ h => h) (Or.inl ⟨by kernel_rfl, ?_⟩) (by assumption) ?_
  rotate_left
  · (intro w hSw; (try dsimp only at hSw); go_simp) <;> (try (with_reducible rfl))
  try simp only [Act.put, Array.getInternal_eq_getElem, List.getElem_toArray, List.getElem_cons_zero, List.getElem_cons_succ, List.setIfInBounds_toArray, List.set_cons_zero, List.set_cons_succ]
  refine wpAnyH_ready (rs := [6]) (by kernel_rfl) (by simp) ?_
  refine AllReadyH.cons rfl (fun K hK => ?_) AllReadyH.nil
  (rw [if_pos (by kernel_rfl)]; go_simp; go_at_call 30; refine ((HQ1.out _ ((Keeps.refl _ w9).drew))).mono ?_; rintro e wx ⟨rfl, h9⟩; subst wx)
  refine hK.out _ _ trivial (fun hHeld => ?_)
  clear hK K
  try simp only [Act.put, Array.getInternal_eq_getElem, List.getElem_toArray, List.getElem_cons_zero, List.getElem_cons_succ, List.setIfInBounds_toArray, List.set_cons_zero, List.set_cons_succ]
  refine wpAnyH_take (i := 7) (v := ?_) rfl (by kernel_rfl) (by kernel_rfl) (by kernel_rfl) (fun _ _ _ h => h) (Or.inl ⟨by kernel_rfl, ?_⟩) (by assumption) ?_
  rotate_left
  · (intro w hSw; (try dsimp only at hSw); go_simp) <;> (try (with_reducible rfl))
  try simp only [Act.put, Array.getInternal_eq_getElem, List.getElem_toArray, List.getElem_cons_zero, List.getElem_cons_succ, List.setIfInBounds_toArray, List.set_cons_zero, List.set_cons_succ]
  refine wpAnyH_take (i := 8) (v := ?_) rfl (by kernel_rfl) (by kernel_rfl) (by kernel_rfl) (fun _ _ _ h => h) (Or.inl ⟨by kernel_rfl, ?_⟩) (by assumption) ?_
  rotate_left
  · (intro w hSw; (try dsimp only at hSw); go_simp) <;> (try (with_reducible rfl))
  try simp only [Act.put, Array.getInternal_eq_getElem, List.getElem_toArray, List.getElem_cons_zero, List.getElem_cons_succ, List.setIfInBounds_toArray, List.set_cons_zero, List.set_cons_succ]
  refine wpAnyH_take (i := 9) (v := ?_) rfl (by kernel_rfl) (by kernel_rfl) (by kernel_rfl) (fun _ _ _ h => h) (Or.inl ⟨by kernel_rfl, ?_⟩) (by assumption) ?_
  rotate_left
  · (intro w hSw; (try dsimp only at hSw); go_simp) <;> (try (with_reducible rfl))
  try simp only [Act.put, Array.getInternal_eq_getElem, List.getElem_toArray, List.getElem_cons_zero, List.getElem_cons_succ, List.setIfInBounds_toArray, List.set_cons_zero, List.set_cons_succ]
  refine wpAnyH_take (i := 10) (v := ?_) rfl (by kernel_rfl) (by kernel_rfl) (by kernel_rfl) (fun _ _ _ h => h) (Or.inl ⟨by kernel_rfl, ?_⟩) (by assumption) ?_
  rotate_left
  · (intro w hSw; (try dsimp only at hSw); go_simp) <;> (try (with_reducible rfl))
  try simp only [Act.put, Array.getInternal_eq_getElem, List.getElem_toArray, List.getElem_cons_zero, List.getElem_cons_succ, List.setIfInBounds_toArray, List.set_cons_zero, List.set_cons_succ]
  refine wpAnyH_take (i := 11) (v := ?_) rfl (by kernel_rfl) (by kernel_rfl) (by kernel_rfl) (fun _ _ _ h => h) (Or.inl ⟨by kernel_rfl, ?_⟩) (by assumption) ?_
  rotate_left
  · (intro w hSw; (try dsimp only at hSw); go_simp) <;> (try (with_reducible rfl))
  try simp only [Act.put, Array.getInternal_eq_getElem, List.getElem_toArray, List.getElem_cons_zero, List.getElem_cons_succ, List.setIfInBounds_toArray, List.set_cons_zero, List.set_cons_succ]
  refine wpAnyH_take (i := 12) (v := ?_) rfl (by kernel_rfl) (by kernel_rfl) (by kernel_rfl) (fun _ _ _ h => h) (Or.inl ⟨by kernel_rfl, ?_⟩) (by assumption) ?_
  rotate_left
  · (intro w hSw; (try dsimp only at hSw); go_simp) <;> (try (with_reducible rfl))
  try simp only [Act.put, Array.getInternal_eq_getElem, List.getElem_toArray, List.getElem_cons_zero, List.getElem_cons_succ, List.setIfInBounds_toArray, List.set_cons_zero, List.set_cons_succ]
  refine wpAnyH_take (i := 13) (v := ?_) rfl (by kernel_rfl) (by kernel_rfl) (by kernel_rfl) (fun _ _ _ h => h) (Or.inl ⟨by kernel_rfl, ?_⟩) (by assumption) ?_
  rotate_left
  · (intro w hSw; (try dsimp only at hSw); go_simp) <;> (try (with_reducible rfl))
  try simp only [Act.put, Array.getInternal_eq_getElem, List.getElem_toArray, List.getElem_cons_zero, List.getElem_cons_succ, List.setIfInBounds_toArray, List.set_cons_zero, List.set_cons_succ]
  refine wpAnyH_take (i := 14) (v := ?_) rfl (by kernel_rfl) (by kernel_rfl) (by kernel_rfl) (fun _ _ _ h => h) (Or.inl ⟨by kernel_rfl, ?_⟩) (by assumption) ?_
  rotate_left
  · (intro w hSw; (try dsimp only at hSw); go_simp) <;> (try (with_reducible rfl))
  try simp only [Act.put, Array.getInternal_eq_getElem, List.getElem_toArray, List.getElem_cons_zero, List.getElem_cons_succ, List.setIfInBounds_toArray, List.set_cons_zero, List.set_cons_succ]
  refine wpAnyH_take (i := 15) (v := ?_) rfl (by kernel_rfl) (by kernel_rfl) (by kernel_rfl) (fun _ _ _ h => h) (Or.inl ⟨by kernel_rfl, ?_⟩) (by assumption) ?_
  rotate_left
  · (intro w hSw; (try dsimp only at hSw); go_simp) <;> (try (with_reducible rfl))
  try simp only [Act.put, Array.getInternal_eq_getElem, List.getElem_toArray, List.getElem_cons_zero, List.getElem_cons_succ, List.setIfInBounds_toArray, List.set_cons_zero, List.set_cons_succ]
  refine wpAnyH_take (i := 16) (v := ?_) rfl (by kernel_rfl) (by kernel_rfl) (by kernel_rfl) (fun _ _ _ h => h) (Or.inl ⟨by kernel_rfl, ?_⟩) (by assumption) ?_
  rotate_left
  · (intro w hSw; (try dsimp only at hSw); go_simp) <;> (try (with_reducible rfl))
  try simp only [Act.put, Array.getInternal_eq_getElem, List.getElem_toArray, List.getElem_cons_zero, List.getElem_cons_succ, List.setIfInBounds_toArray, List.set_cons_zero, List.set_cons_succ]
  refine wpAnyH_take (i := 17) (v := ?_) rfl (by kernel_rfl) (by kernel_rfl) (by kernel_rfl) (fun _ _ _ h => h) (Or.inl ⟨by kernel_rfl, ?_⟩) (by assumption) ?_
  rotate_left
  · (intro w hSw; (try dsimp only at hSw); go_simp) <;> (try (with_reducible rfl))
  try simp only [Act.put, Array.getInternal_eq_getElem, List.getElem_toArray, List.getElem_cons_zero, List.getElem_cons_succ, List.setIfInBounds_toArray, List.set_cons_zero, List.set_cons_succ]
  refine wpAnyH_ready (rs := [18]) (by kernel_rfl) (by simp) ?_
  refine AllReadyH.cons rfl (fun K hK => ?_) AllReadyH.nil
  (rw [if_pos (by kernel_rfl)]; go_simp; go_at_call 30; refine ((HQ2.out _ ((Keeps.refl _ w9).drew))).mono ?_; rintro e wx ⟨rfl, h9⟩; subst wx)
  refine hK.out _ _ trivial (fun hHeld => ?_)
  clear hK K
  try simp only [Act.put, Array.getInternal_eq_getElem, List.getElem_toArray, List.getElem_cons_zero, List.getElem_cons_succ, List.setIfInBounds_toArray, List.set_cons_zero, List.set_cons_succ]
  refine wpAnyH_take (i := 19) (v := ?_) rfl (by kernel_rfl) (by kernel_rfl) (by kernel_rfl) (fun _ _ _ h => h) (Or.inl ⟨by kernel_rfl, ?_⟩) (by assumption) ?_
  rotate_left
  · (intro w hSw; (try dsimp only at hSw); go_simp) <;> (try (with_reducible rfl))
  try simp only [Act.put, Array.getInternal_eq_getElem, List.getElem_toArray, List.getElem_cons_zero, List.getElem_cons_succ, List.setIfInBounds_toArray, List.set_cons_zero, List.set_cons_succ]
  refine wpAnyH_take (i := 20) (v := ?_) rfl (by kernel_rfl) (by kernel_rfl) (by kernel_rfl) (fun _ _ _ h => h) (Or.inl ⟨by kernel_rfl, ?_⟩) (by assumption) ?_
  rotate_left
  · (intro w hSw; (try dsimp only at hSw); go_simp) <;> (try (with_reducible rfl))
  try simp only [Act.put, Array.getInternal_eq_getElem, List.getElem_toArray, List.getElem_cons_zero, List.getElem_cons_succ, List.setIfInBounds_toArray, List.set_cons_zero, List.set_cons_succ]
  refine wpAnyH_done ?_ ?_ _
  · kernel_rfl
  rw [← HWD.out]
  go_wp2_with fail
  --@14
  refine wp_region_held_drew (S := fun w' => w'.rangeAt w.heap.size 0 CK) (by kernel_rfl) (RG.out _ ((Keeps.refl _ wd).drew)) (fun hHeld => ?_)
  refine wpAnyH_take (i := 0) (v := ?_) rfl (by kernel_rfl) (by kernel_rfl) (by kernel_rfl) (fun _ _ _ h => h) (Or.inl ⟨by kernel_rfl, ?_⟩) (by assumption) ?_
  rotate_left
  · (intro w hSw; (try dsimp only at hSw); go_simp) <;> (try (with_reducible rfl))
  try simp only [Act.put, Array.getInternal_eq_getElem, List.getElem_toArray, List.getElem_cons_zero, List.getElem_cons_succ, List.setIfInBounds_toArray, List.set_cons_zero, List.set_cons_succ]
  refine wpAnyH_take (i := 1) (v := ?_) rfl (by kernel_rfl) (by kernel_rfl) (by kernel_rfl) (fun _ _ _ h => h) (Or.inl ⟨by kernel_rfl, ?_⟩) (by assumption) ?_
  rotate_left
  · (intro w hSw; (try dsimp only at hSw); go_simp) <;> (try (with_reducible rfl))
  try simp only [Act.put, Array.getInternal_eq_getElem, List.getElem_toArray, List.getElem_cons_zero, List.getElem_cons_succ, List.setIfInBounds_toArray, List.set_cons_zero, List.set_cons_succ]
  refine' wpAnyH_take (i := 3) (v := _) rfl (by kernel_rfl) (by kernel_rfl) (by kernel_rfl) (fun _ _ _ h => h) (yieldsIf_load_mid (by kernel_rfl) _ _ rfl _ _ rfl _ _ (fun w hSw => hSw) Try.underlying29 rfl HSZ.out) (by assumption) ?_
  try simp only [Act.put, Array.getInternal_eq_getElem, List.getElem_toArray, List.getElem_cons_zero, List.getElem_cons_succ, List.setIfInBounds_toArray, List.set_cons_zero, List.set_cons_succ]
  refine wpAnyH_take (i := 4) (v := ?_) rfl (by kernel_rfl) (by kernel_rfl) (by kernel_rfl) (fun _ _ _ h => h) (Or.inl ⟨by kernel_rfl, ?_⟩) (by assumption) ?_
  rotate_left
  · (intro w hSw; (try dsimp only at hSw); go_simp) <;> (try (with_reducible rfl))
  try simp only [Act.put, Array.getInternal_eq_getElem, List.getElem_toArray, List.getElem_cons_zero, List.getElem_cons_succ, List.setIfInBounds_toArray, List.set_cons_zero, List.set_cons_succ]
  refine wpAnyH_ready (rs := [2]) (by kernel_rfl) (by simp) ?_
  refine AllReadyH.cons rfl (fun K hK => ?_) AllReadyH.nil
  (rw [if_pos (by kernel_rfl)]; go_simp; go_at_call 65; refine ((HNS.out _ ((Keeps.refl _ wd).drew))).mono ?_; rintro e wx ⟨rfl, h9⟩; subst wx)
  refine hK.out _ _ (RG.out _ ((Keeps.refl _ wd).drew)) (fun hHeld => ?_)
  clear hK K
  try simp only [Act.put, Array.getInternal_eq_getElem, List.getElem_toArray, List.getElem_cons_zero, List.getElem_cons_succ, List.setIfInBounds_toArray, List.set_cons_zero, List.set_cons_succ]
  refine wpAnyH_ready (rs := [5]) (by kernel_rfl) (by simp) ?_
  refine AllReadyH.cons rfl (fun K hK => ?_) AllReadyH.nil
  (rw [if_pos (by kernel_rfl)]; go_simp; go_at_call 37; refine ((HSU.out _ ((Keeps.refl _ wd).drew))).mono ?_; rintro e wz ⟨rfl, kz⟩; have KZ := Lib.hid (((Keeps.refl (fun _ => False) wd).drew).trans (kz _)); clear kz)
  refine hK.out _ _ (RG.out _ KZ.out) (fun hHeld => ?_)
  clear hK K
  try simp only [Act.put, Array.getInternal_eq_getElem, List.getElem_toArray, List.getElem_cons_zero, List.getElem_cons_succ, List.setIfInBounds_toArray, List.set_cons_zero, List.set_cons_succ]
  refine wpAnyH_take (i := 6) (v := ?_) rfl (by kernel_rfl) (by kernel_rfl) (by kernel_rfl) (fun _ _ _ h => h) (Or.inl ⟨by kernel_rfl, ?_⟩) (by assumption) ?_
  rotate_left
  · (intro w hSw; (try dsimp only at hSw); go_simp) <;> (try (with_reducible rfl))
  try simp only [Act.put, Array.getInternal_eq_getElem, List.getElem_toArray, List.getElem_cons_zero, List.getElem_cons_succ, List.setIfInBounds_toArray, List.set_cons_zero, List.set_cons_succ]
  refine wpAnyH_done ?_ ?_ _
  · kernel_rfl
  go_wp2_with (first
    | (refine p_build rfl 29 _ rfl _ rfl _ HZB.out ?_)
    | (refine' wpList_store_mid rfl 29 _ _ rfl (w.heap.size + 1) 0 (zhd).toArray ?hx rfl ?ht HZI.out HZO.out ?_; (case hx => rfl); (case ht => exact (HST.out _ KZ.out).1)))
  try rw [Exit.noGoto_ret]
  refine bodyPost_ret (Go.Proofs.Ytidengmcbppcoaa.wh.ret_cell (p := 4) (u := 5) (ty := 29) (by kernel_rfl) _ _ _ (w.heap.size + 1) _ _ _ (by rfl) (HST.out _ KZ.out).2.1 Try.underlying29 rfl HZI.out) rfl ?_
  exact ⟨nul, rfl, By.nil_ (keeps_own (fun S => (KWD.out S).trans (KZ.out.mono (fun _ _ z => z.elim))) (HST.out _ KZ.out).2.2 (by omega))⟩
set_option maxRecDepth 100000 in
set_option maxHeartbeats 2000000 in
theorem rru_iv (h : Hd) (hw : h.Wf) (g o m c B : Nat) (l : List Nat) (hl : l.length = m) (hm : m ≤ 140737480000000) (hc : m ≤ c) (hc9 : c ≤ 9223372036854775807) (hs : Small l) (hr : Rd w B (some ⟨g, o, none⟩) (by_ l)) (hB : B ≤ w.heap.size) (hp : h.pr = 17) (hk : 8 ≤ m) (ha : l.take 6 = (mid (ku h l)).take 6) (hb : (l.drop 8).take 0 = (mid (ku h l)).drop 8) (hx : num2 l 6 = sumv (ku h l) l) :
    Calls Try.prog 52 #[hvv h nul, .slice (some ⟨g, o, none⟩) m c] w fun e w' => RK w w' e ((ku h l), 0) := by
  unfold RK
  dsimp only
  obtain ⟨w2, hw2, k2, bG, bZ, s2⟩ := box2 w (hcs h nul) zhd 29 29
  dsimp only [zhd] at hw2
  obtain ⟨w3, hw3⟩ : ∃ w3, w3 = w2.drew := ⟨_, rfl⟩
  have k23 : ∀ S, Keeps S w2 w3 := fun S => by rw [hw3]; exact (Keeps.refl S w2).drew
  have k3 : ∀ S, Keeps S w w3 := fun S => (k2 S).trans (k23 S)
  have b3G := Blk.keeps bG (k23 (fun _ => False)) (fun z => z)
  have b3Z := Blk.keeps bZ (k23 (fun _ => False)) (fun z => z)
  have s3 : w3.heap.size = w.heap.size + 2 := by rw [hw3]; exact s2
  have hr3 := rd_old hr (k3 (fun _ => False))
  have HPR : Hid (∀ wq, Keeps (fun _ => False) w2 wq → wq.cell? ⟨w.heap.size, 34, none⟩ = some (.int .u8 (h.pr : Int))) := Lib.hid (fun wq kq => (HF.of_blk hw (Blk.keeps bG kq (fun z => z))).pr)
  have HM : ∀ u, Hid (Calls Try.prog 41 #[.int .u8 (h.pr : Int)] u fun e w' => e = .returned (.int .i64 8) ∧ w' = u) := fun u => Lib.hid (by have := pmids_ u h.pr; rw [show mids h.pr = 8 from by rw [hp]; rfl] at this; exact this)
  have HS : ∀ u, Hid (Calls Try.prog 35 #[.int .u8 (h.pr : Int)] u fun e w' => e = .returned (.int .i64 6) ∧ w' = u) := fun u => Lib.hid (by have := psat_ u h.pr; rw [show sat h.pr = 6 from by rw [hp]; rfl] at this; exact this)
  have HZI := Lib.hid zhd_info
  have HZB := Lib.hid zhd_built
  have HZO := Lib.hid (all_oneCell_toArray zhd_one)
  have HWF := Lib.hid hw
  have HW2 := Lib.hid hw2
  have HW3 := Lib.hid hw3
  have HB3 := Lib.hid b3G
  have HZ3 := Lib.hid b3Z
  have K3 := Lib.hid k3
  have S3 := Lib.hid s3
  have HL := Lib.hid (And.intro hl (And.intro hs hB))
  have HR3 := Lib.hid hr3
  obtain ⟨o2, ho2⟩ := cutA_form g o c 8
  obtain ⟨n4, hn4⟩ : ∃ n4, n4 = m - 8 := ⟨_, rfl⟩
  obtain ⟨c5, hc5⟩ : ∃ c5, c5 = c - 8 := ⟨_, rfl⟩
  have q1 : ∀ u, (Instr.slice 27 (.slice (some ⟨g, o, none⟩) m c) (some (.int .i64 8)) none none).run Try.prog u = .ok (.slice (some ⟨g, o2, none⟩) n4 c5) u := fun u => by rw [hn4, hc5, ← ho2]; exact cut_l (some ⟨g, o, none⟩) m c 8 (by omega) u
  have hrd := rd_cut hr3 (c := c) 8 (by omega)
  rw [ho2] at hrd
  have hdl : (l.drop 8).length = n4 := by rw [List.length_drop]; omega
  have HDL := Lib.hid hdl
  have HCN : Hid (Calls Try.prog 64 #[.slice (some ⟨g, o2, none⟩) n4 c5] w3 fun e w' => ∃ v, e = .returned v ∧ By w3 w' v (l.drop 8)) := Lib.hid (clone_ w3 g o2 n4 c5 B (l.drop 8) hdl (by omega) hrd)
  have d1 : ¬ (m : Int) < 8 := by omega
  have nb : n4 ≤ 140737480000000 := by omega
  clear ho2 hrd hdl hn4 hc5
  have HP := Lib.hid hp
  unfold hvv
  clear hw2 k2 bG bZ s2 hw3 k23 k3 b3G b3Z s3 hr3 hr hB hw hp
  generalize hC : hcs h nul = C at *
  go_enter Try.func52, Try.ntmps52
  go_wp2_with fail
  try rw [← HW2.out]
  refine wp_region_held_drew (S := fun w' => w'.cell? ⟨w.heap.size, 34, none⟩ = some (.int .u8 (h.pr : Int))) (by kernel_rfl) (HPR.out _ ((Keeps.refl _ w2).drew)) (fun hHeld => ?_)
  refine wpAnyH_take (i := 0) (v := ?_) rfl (by kernel_rfl) (by kernel_rfl) (by kernel_rfl) (fun _ _ _ h => h) (Or.inl ⟨by kernel_rfl, ?_⟩) (by assumption) ?_
  rotate_left
  · (intro w hSw; (try dsimp only at hSw); go_simp) <;> (try (with_reducible rfl))
  try simp only [Act.put, Array.getInternal_eq_getElem, List.getElem_toArray, List.getElem_cons_zero, List.getElem_cons_succ, List.setIfInBounds_toArray, List.set_cons_zero, List.set_cons_succ]
  refine wpAnyH_take (i := 1) (v := ?_) rfl (by kernel_rfl) (by kernel_rfl) (by kernel_rfl) (fun _ _ _ h => h) (Or.inl ⟨by kernel_rfl, ?_⟩) (by assumption) ?_
  rotate_left
  · (intro w hSw; have hcell := hSw; go_simp) <;> (try (with_reducible rfl))
  try simp only [Act.put, Array.getInternal_eq_getElem, List.getElem_toArray, List.getElem_cons_zero, List.getElem_cons_succ, List.setIfInBounds_toArray, List.set_cons_zero, List.set_cons_succ]
  refine wpAnyH_take (i := 3) (v := ?_) rfl (by kernel_rfl) (by kernel_rfl) (by kernel_rfl) (fun _ _ _ h => h) (Or.inl ⟨by kernel_rfl, ?_⟩) (by assumption) ?_
  rotate_left
  · (intro w hSw; (try dsimp only at hSw); go_simp) <;> (try (with_reducible rfl))
  try simp only [Act.put, Array.getInternal_eq_getElem, List.getElem_toArray, List.getElem_cons_zero, List.getElem_cons_succ, List.setIfInBounds_toArray, List.set_cons_zero, List.set_cons_succ]
  refine wpAnyH_take (i := 4) (v := ?_) rfl (by kernel_rfl) (by kernel_rfl) (by kernel_rfl) (fun _ _ _ h => h) (Or.inl ⟨by kernel_rfl, ?_⟩) (by assumption) ?_
  rotate_left
  · (intro w hSw; have hcell := hSw; go_simp) <;> (try (with_reducible rfl))
  try simp only [Act.put, Array.getInternal_eq_getElem, List.getElem_toArray, List.getElem_cons_zero, List.getElem_cons_succ, List.setIfInBounds_toArray, List.set_cons_zero, List.set_cons_succ]
  refine wpAnyH_ready (rs := [2]) (by kernel_rfl) (by simp) ?_
  refine AllReadyH.cons rfl (fun K hK => ?_) AllReadyH.nil
  (rw [if_pos (by kernel_rfl)]; go_simp; go_at_call 41; refine ((HM _).out).mono ?_; rintro e wx ⟨rfl, h9⟩; subst wx)
  refine hK.out _ _ (HPR.out _ ((Keeps.refl _ w2).drew)) (fun hHeld => ?_)
  clear hK K
  try simp only [Act.put, Array.getInternal_eq_getElem, List.getElem_toArray, List.getElem_cons_zero, List.getElem_cons_succ, List.setIfInBounds_toArray, List.set_cons_zero, List.set_cons_succ]
  refine wpAnyH_ready (rs := [5]) (by kernel_rfl) (by simp) ?_
  refine AllReadyH.cons rfl (fun K hK => ?_) AllReadyH.nil
  (rw [if_pos (by kernel_rfl)]; go_simp; go_at_call 35; refine ((HS _).out).mono ?_; rintro e wx ⟨rfl, h9⟩; subst wx)
  refine hK.out _ _ (HPR.out _ ((Keeps.refl _ w2).drew)) (fun hHeld => ?_)
  clear hK K
  try simp only [Act.put, Array.getInternal_eq_getElem, List.getElem_toArray, List.getElem_cons_zero, List.getElem_cons_succ, List.setIfInBounds_toArray, List.set_cons_zero, List.set_cons_succ]
  refine wpAnyH_take (i := 6) (v := ?_) rfl (by kernel_rfl) (by kernel_rfl) (by kernel_rfl) (fun _ _ _ h => h) (Or.inl ⟨by kernel_rfl, ?_⟩) (by assumption) ?_
  rotate_left
  · (intro w hSw; (try dsimp only at hSw); go_simp) <;> (try (with_reducible rfl))
  try simp only [Act.put, Array.getInternal_eq_getElem, List.getElem_toArray, List.getElem_cons_zero, List.getElem_cons_succ, List.setIfInBounds_toArray, List.set_cons_zero, List.set_cons_succ]
  refine wpAnyH_take (i := 7) (v := ?_) rfl (by kernel_rfl) (by kernel_rfl) (by kernel_rfl) (fun _ _ _ h => h) (Or.inl ⟨by kernel_rfl, ?_⟩) (by assumption) ?_
  rotate_left
  · (intro w hSw; (try dsimp only at hSw); go_simp) <;> (try (with_reducible rfl))
  try simp only [Act.put, Array.getInternal_eq_getElem, List.getElem_toArray, List.getElem_cons_zero, List.getElem_cons_succ, List.setIfInBounds_toArray, List.set_cons_zero, List.set_cons_succ]
  refine wpAnyH_done ?_ ?_ _
  · kernel_rfl
  rw [← HW3.out]
  go_wp2_with fail
  refine HCN.out.mono ?_
  rintro e w4 ⟨v, rfl, y4⟩
  obtain ⟨A4, c4, rfl, r4⟩ := y4.rd
  rw [HDL.out] at y4 ⊢
  have s3 := S3.out
  have ne4 : ¬ (Value.slice A4 n4 c4).ownBlock = some w.heap.size := y4.apart (by omega)
  have ne4z : ¬ (Value.slice A4 n4 c4).ownBlock = some (w.heap.size + 1) := y4.apart (by omega)
  have y4w : By w w4 (.slice A4 n4 c4) (l.drop 8) := y4.base K3.out
  have g4 := Blk.keeps HB3.out (y4.keep (fun _ => False)) (fun z => z)
  have z4 := Blk.keeps HZ3.out (y4.keep (fun _ => False)) (fun z => z)
  rw [← hC] at g4
  have rr4 := rd_old HR3.out (y4.keep (fun _ => False))
  have kk4 : ∀ S, Keeps S w w4 := fun S => (K3.out S).trans (y4.keep S)
  have sz4 : w.heap.size + 2 ≤ w4.heap.size := by have := (y4.keep (fun _ => False)).size; omega
  have h1 := HWF.out.s
  have h2 := HWF.out.d
  have c42 : (w4).cell? ⟨w.heap.size, 42, none⟩ = some _ := h_cell g4 h1 h2 8 _ rfl
  have f42 : (w4).frozen? ⟨w.heap.size, 42, none⟩ = false := g4.frozen 42
  obtain ⟨w5, hw5⟩ : ∃ w5, w5 = w4.setCell ⟨w.heap.size, 42, none⟩ (.slice A4 n4 c4) := ⟨_, rfl⟩
  have g5 := st_dat g4 h1 h2 (.slice A4 n4 c4) (l.drop 8)
  have p5 : Keeps (· = w.heap.size) w4 (w4.setCell ⟨w.heap.size, 42, none⟩ (.slice A4 n4 c4)) := keeps_put (Keeps.refl _ w4) 42 _
  rw [← hw5] at g5 p5
  have HW5 := Lib.hid hw5
  clear hw5
  have c35 : (w5).cell? ⟨w.heap.size, 35, none⟩ = some _ := h_cell g5 h1 h2 1 _ rfl
  have f35 : (w5).frozen? ⟨w.heap.size, 35, none⟩ = false := g5.frozen 35
  obtain ⟨x0, hx0⟩ : ∃ x0, x0 = num2 l 0 := ⟨_, rfl⟩
  obtain ⟨x2, hx2⟩ : ∃ x2, x2 = num2 l 2 := ⟨_, rfl⟩
  have g6a := st_sp g5 h1 h2 x0
  have c36 : (w5.setCell ⟨w.heap.size, 35, none⟩ (.int .u16 (x0 : Int))).cell? ⟨w.heap.size, 36, none⟩ = some _ := h_cell g6a h1 h2 2 _ rfl
  have f36 : (w5.setCell ⟨w.heap.size, 35, none⟩ (.int .u16 (x0 : Int))).frozen? ⟨w.heap.size, 36, none⟩ = false := g6a.frozen 36
  have g6 := st_dp g6a h1 h2 x2
  obtain ⟨w6, hw6⟩ : ∃ w6, w6 = (w5.setCell ⟨w.heap.size, 35, none⟩ (.int .u16 (x0 : Int))).setCell ⟨w.heap.size, 36, none⟩ (.int .u16 (x2 : Int)) := ⟨_, rfl⟩
  have p6 : Keeps (· = w.heap.size) w4 ((w5.setCell ⟨w.heap.size, 35, none⟩ (.int .u16 (x0 : Int))).setCell ⟨w.heap.size, 36, none⟩ (.int .u16 (x2 : Int))) := keeps_put (keeps_put p5 35 _) 36 _
  have c34 : ((w5.setCell ⟨w.heap.size, 35, none⟩ (.int .u16 (x0 : Int))).setCell ⟨w.heap.size, 36, none⟩ (.int .u16 (x2 : Int))).cell? ⟨w.heap.size, 34, none⟩ = some (.int .u8 (h.pr : Int)) := h_cell g6 h1 h2 0 _ rfl
  rw [← hw6] at g6 p6
  have HW6 := Lib.hid hw6
  clear hw6
  have hp := HP.out
  have gk : Blk w6 w.heap.size 29 (hcs (ku h l) (.slice A4 n4 c4)) := by
    subst hx0 hx2
    exact g6
  have hBG : B ≤ w.heap.size := HL.out.2.2
  have hl := HL.out.1
  have hs := HL.out.2.1
  have hwk : (ku h l).Wf := ku_wf HWF.out hs
  have rr5 := rd_put rr4 p5 hBG
  have rr6 := rd_put rr4 p6 hBG
  have rr8 := rd_put rr4 p6 hBG
  have HN0 : Hid (Calls Try.prog 65 #[.slice (some ⟨g, o, none⟩) m c, .int .i64 0] w5 fun e w' => e = .returned (.int .u16 (x0 : Nat)) ∧ w5 = w') := Lib.hid (by rw [hx0]; exact number_ w5 (some ⟨g, o, none⟩) l m c B 0 hl (by omega) hc hc9 hs rr5 (by omega))
  have HN2 : Hid (Calls Try.prog 65 #[.slice (some ⟨g, o, none⟩) m c, .int .i64 2] w5 fun e w' => e = .returned (.int .u16 (x2 : Nat)) ∧ w5 = w') := Lib.hid (by rw [hx2]; exact number_ w5 (some ⟨g, o, none⟩) l m c B 2 hl (by omega) hc hc9 hs rr5 (by omega))
  have d6 : ((h.pr : Int) == 6) = false := beq_eq_false_iff_ne.2 (by omega)
  have hkd : (ku h l).dat.length = n4 := HDL.out
  have HMI : Hid (Calls Try.prog 34 #[hvv (ku h l) (.slice A4 n4 c4)] w6 fun e w' => ∃ v, e = .returned v ∧ By w6 w' v (mid (ku h l))) := Lib.hid (middle_ w6 (ku h l) A4 n4 c4 hwk hkd (by omega))
  have hml : (mid (ku h l)).length = 8 := by rw [mid_len]; show mids h.pr = 8; rw [hp]; rfl
  have HML := Lib.hid hml
  have HSM := Lib.hid (mid_small hwk)
  have HSZ := Lib.hid (hd_sz hwk (.slice A4 n4 c4))
  have HSO := Lib.hid (all_oneCell_toArray (hcs_one (h := (ku h l)) (v := .slice A4 n4 c4) rfl))
  have HGK := Lib.hid gk
  have kk8 : ∀ S, Keeps S w w6 := keeps_own kk4 p6 (Nat.le_refl _)
  have KK8 := Lib.hid kk8
  have ZZ8 := Lib.hid (Blk.keeps z4 p6 (by omega))
  have Y8 := Lib.hid (past_ y4w p6 (Nat.le_refl _) ne4)
  have NZ := Lib.hid ne4z
  have RR8 := Lib.hid rr8
  have SZ8 : Hid (w.heap.size + 2 ≤ w6.heap.size) := Lib.hid (by have := p6.size; omega)
  have HKD := Lib.hid hkd
  have HWK := Lib.hid hwk
  have hpk : (ku h l).pr = 17 := hp
  have HPK := Lib.hid hpk
  clear s3 ne4 ne4z y4w g4 z4 rr4 kk4 sz4 h1 h2 g5 p5 gk hwk y4 r4 g6a g6 p6  hBG rr5 rr6 rr8 hkd kk8 hx0 hx2 hs hl hml hpk hp
  unfold hvv at HMI
  generalize hCK : hcs (ku h l) (.slice A4 n4 c4) = CK at *
  have HCK := Lib.hid hCK
  clear hCK
  go_wp2_with (first
    | ((with_reducible show Calls _ 65 #[_, .int .i64 0] _ _); (try rw [← HW5.out]); refine HN0.out.mono ?_; rintro e wx ⟨rfl, h9⟩; subst wx)
    | ((with_reducible show Calls _ 65 #[_, .int .i64 2] _ _); refine HN2.out.mono ?_; rintro e wx ⟨rfl, h9⟩; subst wx)
    | ((try rw [← HW6.out]); refine wpList_load_mid rfl 29 _ rfl w.heap.size 0 rfl CK _ (Blk.range HGK.out) Try.underlying29 rfl HSZ.out ?_))
  --@m
  refine HMI.out.mono ?_
  rintro e w9 ⟨v9, rfl, y9⟩
  obtain ⟨g9, c9, rfl, hg9, hlt9⟩ := y9.form (by rw [HML.out]; decide)
  rw [HML.out] at y9 ⊢
  have hc99 : 8 ≤ c9 := by_cap y9 HML.out
  have rm := by_rd0 y9
  obtain ⟨wd, hwd⟩ : ∃ wd, wd = w9.drew := ⟨_, rfl⟩
  have kd : ∀ S, Keeps S w9 wd := fun S => by rw [hwd]; exact (Keeps.refl S w9).drew
  have k8d : ∀ S, Keeps S w6 wd := fun S => (y9.keep S).trans (kd S)
  have rr9 := rd_old RR8.out (y9.keep (fun _ => False))
  obtain ⟨o3, ho3⟩ := cutA_form g o c 8
  obtain ⟨o9, ho9⟩ := cutA_form g9 0 c9 8
  obtain ⟨cr, hcr⟩ : ∃ cr, cr = c - 8 := ⟨_, rfl⟩
  obtain ⟨cm, hcm⟩ : ∃ cm, cm = c9 - 8 := ⟨_, rfl⟩
  have t1 : ∀ u, (Instr.slice 27 (.slice (some ⟨g, o, none⟩) m c) none (some (.int .i64 6)) none).run Try.prog u = .ok (.slice (some ⟨g, o, none⟩) 6 c) u := fun u => cut_h (some ⟨g, o, none⟩) m c 6 (by omega) u
  have t2 : ∀ u, (Instr.slice 27 (.slice (some ⟨g9, 0, none⟩) 8 c9) none (some (.int .i64 6)) none).run Try.prog u = .ok (.slice (some ⟨g9, 0, none⟩) 6 c9) u := fun u => cut_h (some ⟨g9, 0, none⟩) 8 c9 6 (by omega) u
  have t3 : ∀ u, (Instr.slice 27 (.slice (some ⟨g, o, none⟩) m c) (some (.int .i64 8)) (some (.int .i64 8)) none).run Try.prog u = .ok (.slice (some ⟨g, o3, none⟩) 0 cr) u := fun u => by rw [hcr, ← ho3]; exact cut_lh (some ⟨g, o, none⟩) m c 8 8 (by omega) (by omega) u
  have t4 : ∀ u, (Instr.slice 27 (.slice (some ⟨g9, 0, none⟩) 8 c9) (some (.int .i64 8)) none none).run Try.prog u = .ok (.slice (some ⟨g9, o9, none⟩) 0 cm) u := fun u => by rw [hcm, ← ho9]; exact cut_l (some ⟨g9, 0, none⟩) 8 c9 8 (by omega) u
  have e1 : (l.take 6).length = 6 := by rw [List.length_take, HL.out.1]; omega
  have e2 : ((mid (ku h l)).take 6).length = 6 := by rw [List.length_take, HML.out]; rfl
  have e3 : ((l.drop 8).take 0).length = 0 := by rw [List.length_take, List.length_drop, HL.out.1]; omega
  have e4 : ((mid (ku h l)).drop 8).length = 0 := by rw [List.length_drop, HML.out]
  have HQ1 : Hid (∀ u, Keeps (fun _ => False) w9 u → Calls Try.prog 30 #[.slice (some ⟨g, o, none⟩) 6 c, .slice (some ⟨g9, 0, none⟩) 6 c9] u fun e w' => e = .returned (.bool true) ∧ w' = u) := Lib.hid (fun u hu => by
    have := equal_ u (some ⟨g, o, none⟩) (some ⟨g9, 0, none⟩) (l.take 6) ((mid (ku h l)).take 6) 6 6 c c9 _ _ e1 e2 (HL.out.2.1.take _) (HSM.out.take _) (rd_take (rd_old rr9 hu) 6) (rd_take (rd_old rm hu) 6) (.inl (by decide)) (.inl (by decide))
    rw [decide_eq_true ha] at this
    exact this)
  have HQ2 : Hid (∀ u, Keeps (fun _ => False) w9 u → Calls Try.prog 30 #[.slice (some ⟨g, o3, none⟩) 0 cr, .slice (some ⟨g9, o9, none⟩) 0 cm] u fun e w' => e = .returned (.bool true) ∧ w' = u) := Lib.hid (fun u hu => by
    have r3 := rd_take (rd_cut (rd_old rr9 hu) (c := c) 8 (by rw [HL.out.1]; exact hc)) 0
    have r4 := rd_cut (rd_old rm hu) (c := c9) 8 (by rw [HML.out]; exact hc99)
    rw [ho3] at r3
    rw [ho9] at r4
    have := equal_ u (some ⟨g, o3, none⟩) (some ⟨g9, o9, none⟩) _ _ 0 0 cr cm _ _ e3 e4 ((HL.out.2.1.drop _).take _) (HSM.out.drop _) r3 r4 (.inr (.inr ⟨_, _, rfl⟩)) (.inr (.inr ⟨_, _, rfl⟩))
    rw [decide_eq_true hb] at this
    exact this)
  have KWD : Hid (∀ S, Keeps S w wd) := Lib.hid (fun S => (KK8.out S).trans (k8d S))
  have HST : Hid (∀ u, Keeps (fun _ => False) wd u → u.there (w.heap.size + 1) 0 CK.toArray.size ∧ Blk (u.setCells (w.heap.size + 1) 0 CK) (w.heap.size + 1) 29 CK ∧ Keeps (· = (w.heap.size + 1)) u (u.setCells (w.heap.size + 1) 0 CK)) := Lib.hid (fun u hu => p_store (Blk.keeps ZZ8.out ((k8d _).trans hu) (fun z => z)) (by rw [← HCK.out, hcs_len HWK.out]; rfl))
  have rr9d := rd_old rr9 (kd (fun _ => False))
  have HNS : Hid (∀ u, Keeps (fun _ => False) wd u → Calls Try.prog 65 #[.slice (some ⟨g, o, none⟩) m c, .int .i64 6] u fun e w' => e = .returned (.int .u16 (num2 l 6 : Nat)) ∧ u = w') := Lib.hid (fun u hu => number_ u (some ⟨g, o, none⟩) l m c B 6 HL.out.1 (by omega) hc hc9 HL.out.2.1 (rd_old rr9d hu) (by omega))
  have HSU : Hid (∀ u, Keeps (fun _ => False) wd u → Calls Try.prog 37 #[.agg CK.toArray, .slice (some ⟨g, o, none⟩) m c] u fun e w' => e = .returned (.int .u16 (sumv (ku h l) l : Nat)) ∧ ∀ S, Keeps S u w') := Lib.hid (fun u hu => by
    have := sumof_ u (ku h l) A4 n4 c4 HWK.out (some ⟨g, o, none⟩) m c B l HL.out.1 (by rw [HPK.out]; show 6 + 2 ≤ m; omega) (by omega) hc HL.out.2.1 (rd_old rr9d hu) (by have := hu.size; have := (KWD.out (fun _ => False)).size; have := HL.out.2.2; omega) (by rw [HPK.out]; decide)
    unfold hvv at this
    rw [HCK.out] at this
    exact this)
  have RG : Hid (∀ wq, Keeps (fun _ => False) wd wq → wq.rangeAt w.heap.size 0 CK) := Lib.hid (fun wq kq => Blk.range (Blk.keeps HGK.out ((k8d _).trans kq) (fun z => z)))
  have dx : (((num2 l 6 : Nat) : Int) != ((sumv (ku h l) l : Nat) : Int)) = false := by rw [hx]; exact bne_self_eq_false _
  have YD : Hid (By w wd (.slice A4 n4 c4) (ku h l).dat) := Lib.hid (Y8.out.grown k8d)
  generalize num2 l 6 = na at *
  generalize sumv (ku h l) l = sv at *
  have HWD := Lib.hid hwd
  have ew : IntKind.i64.wrap 8 = 8 := by decide
  clear hwd kd k8d rr9 rm y9 hg9 hlt9 ho3 ho9 e1 e2 e3 e4 hcr hcm rr9d hx
  go_wp2_with fail
  --@12
  refine wp_region_held_drew (S := fun _ => True) (by kernel_rfl) trivial (fun hHeld => ?_)
  refine wpAnyH_take (i := 0) (v := ?_) rfl (by kernel_rfl) (by kernel_rfl) (by kernel_rfl) (fun _ _ _ h => h) (Or.inl ⟨by kernel_rfl, ?_⟩) (by assumption) ?_
  rotate_left
  · (intro w hSw; (try dsimp only at hSw); go_simp) <;> (try (with_reducible rfl))
  try simp only [Act.put, Array.getInternal_eq_getElem, List.getElem_toArray, List.getElem_cons_zero, List.getElem_cons_succ, List.setIfInBounds_toArray, List.set_cons_zero, List.set_cons_succ]
  refine wpAnyH_take (i := 1) (v := ?_) rfl (by kernel_rfl) (by kernel_rfl) (by kernel_rfl) (fun _ _ _ h => h) (Or.inl ⟨by kernel_rfl, ?_⟩) (by assumption) ?_
  rotate_left
  · (intro w hSw; (try dsimp only at hSw); go_simp) <;> (try (with_reducible rfl))
  try simp only [Act.put, Array.getInternal_eq_getElem, List.getElem_toArray, List.getElem_cons_zero, List.getElem_cons_succ, List.setIfInBounds_toArray, List.set_cons_zero, List.set_cons_succ]
  refine wpAnyH_take (i := 2) (v := ?_) rfl (by kernel_rfl) (by kernel_rfl) (by kernel_rfl) (fun _ _ _ h => h) (Or.inl ⟨by kernel_rfl, ?_⟩) (by assumption) ?_
  rotate_left
  · (intro w hSw; (try dsimp only at hSw); go_simp) <;> (try (with_reducible rfl))
  try simp only [Act.put, Array.getInternal_eq_getElem, List.getElem_toArray, List.getElem_cons_zero, List.getElem_cons_succ, List.setIfInBounds_toArray, List.set_cons_zero, List.set_cons_succ]
  refine wpAnyH_take (i := 3) (v := ?_) rfl (by kernel_rfl) (by kernel_rfl) (by kernel_rfl) (fun _ _ _ h => h) (Or.inl ⟨by kernel_rfl, ?_⟩) (by assumption) ?_
  rotate_left
  · (intro w hSw; (try dsimp only at hSw); go_simp) <;> (try (with_reducible rfl))
  try simp only [Act.put, Array.getInternal_eq_getElem, List.getElem_toArray, List.getElem_cons_zero, List.getElem_cons_succ, List.setIfInBounds_toArray, List.set_cons_zero, List.set_cons_succ]
  refine wpAnyH_take (i := 4) (v := ?_) rfl (by kernel_rfl) (by kernel_rfl) (by kernel_rfl) (fun _ _ _ h => h) (Or.inl ⟨by kernel_rfl, ?_⟩) (by assumption) ?_
  rotate_left
  · (intro w hSw; (try dsimp only at hSw); go_simp) <;> (try (with_reducible rfl))
  try simp only [Act.put, Array.getInternal_eq_getElem, List.getElem_toArray, List.getElem_cons_zero, List.getElem_cons_succ, List.setIfInBounds_toArray, List.set_cons_zero, List.set_cons_succ]
  refine wpAnyH_take (i := 5) (v := ?_) rfl (by kernel_rfl) (by kernel_rfl) (by kernel_rfl) (fun _ _ _ h => h) (Or.inl ⟨by kernel_rfl, ?_⟩) (by assumption) ?_
  rotate_left
  · (intro w hSw; (try dsimp only at hSw); go_simp) <;> (try (with_reducible rfl))
  try simp only [Act.put, Array.getInternal_eq_getElem, List.getElem_toArray, List.getElem_cons_zero, List.getElem_cons_succ, List.setIfInBounds_toArray, List.set_cons_zero, List.set_cons_succ]
  refine wpAnyH_ready (rs := [6]) (by kernel_rfl) (by simp) ?_
  refine AllReadyH.cons rfl (fun K hK => ?_) AllReadyH.nil
  (rw [if_pos (by kernel_rfl)]; go_simp; go_at_call 30; refine ((HQ1.out _ ((Keeps.refl _ w9).drew))).mono ?_; rintro e wx ⟨rfl, h9⟩; subst wx)
  refine hK.out _ _ trivial (fun hHeld => ?_)
  clear hK K
  try simp only [Act.put, Array.getInternal_eq_getElem, List.getElem_toArray, List.getElem_cons_zero, List.getElem_cons_succ, List.setIfInBounds_toArray, List.set_cons_zero, List.set_cons_succ]
  refine wpAnyH_take (i := 7) (v := ?_) rfl (by kernel_rfl) (by kernel_rfl) (by kernel_rfl) (fun _ _ _ h => h) (Or.inl ⟨by kernel_rfl, ?_⟩) (by assumption) ?_
  rotate_left
  · (intro w hSw; (try dsimp only at hSw); go_simp) <;> (try (with_reducible rfl))
  try simp only [Act.put, Array.getInternal_eq_getElem, List.getElem_toArray, List.getElem_cons_zero, List.getElem_cons_succ, List.setIfInBounds_toArray, List.set_cons_zero, List.set_cons_succ]
  refine wpAnyH_take (i := 8) (v := ?_) rfl (by kernel_rfl) (by kernel_rfl) (by kernel_rfl) (fun _ _ _ h => h) (Or.inl ⟨by kernel_rfl, ?_⟩) (by assumption) ?_
  rotate_left
  · (intro w hSw; (try dsimp only at hSw); go_simp) <;> (try (with_reducible rfl))
  try simp only [Act.put, Array.getInternal_eq_getElem, List.getElem_toArray, List.getElem_cons_zero, List.getElem_cons_succ, List.setIfInBounds_toArray, List.set_cons_zero, List.set_cons_succ]
  refine wpAnyH_take (i := 9) (v := ?_) rfl (by kernel_rfl) (by kernel_rfl) (by kernel_rfl) (fun _ _ _ h => h) (Or.inl ⟨by kernel_rfl, ?_⟩) (by assumption) ?_
  rotate_left
  · (intro w hSw; (try dsimp only at hSw); go_simp) <;> (try (with_reducible rfl))
  try simp only [Act.put, Array.getInternal_eq_getElem, List.getElem_toArray, List.getElem_cons_zero, List.getElem_cons_succ, List.setIfInBounds_toArray, List.set_cons_zero, List.set_cons_succ]
  refine wpAnyH_take (i := 10) (v := ?_) rfl (by kernel_rfl) (by kernel_rfl) (by kernel_rfl) (fun _ _ _ h => h) (Or.inl ⟨by kernel_rfl, ?_⟩) (by assumption) ?_
  rotate_left
  · (intro w hSw; (try dsimp only at hSw); go_simp) <;> (try (with_reducible rfl))
  try simp only [Act.put, Array.getInternal_eq_getElem, List.getElem_toArray, List.getElem_cons_zero, List.getElem_cons_succ, List.setIfInBounds_toArray, List.set_cons_zero, List.set_cons_succ]
  refine wpAnyH_take (i := 11) (v := ?_) rfl (by kernel_rfl) (by kernel_rfl) (by kernel_rfl) (fun _ _ _ h => h) (Or.inl ⟨by kernel_rfl, ?_⟩) (by assumption) ?_
  rotate_left
  · (intro w hSw; (try dsimp only at hSw); go_simp) <;> (try (with_reducible rfl))
  try simp only [Act.put, Array.getInternal_eq_getElem, List.getElem_toArray, List.getElem_cons_zero, List.getElem_cons_succ, List.setIfInBounds_toArray, List.set_cons_zero, List.set_cons_succ]
  refine wpAnyH_take (i := 12) (v := ?_) rfl (by kernel_rfl) (by kernel_rfl) (by kernel_rfl) (fun _ _ _ h => h) (Or.inl ⟨by kernel_rfl, ?_⟩) (by assumption) ?_
  rotate_left
  · (intro w hSw; (try dsimp only at hSw); go_simp) <;> (try (with_reducible rfl))
  try simp only [Act.put, Array.getInternal_eq_getElem, List.getElem_toArray, List.getElem_cons_zero, List.getElem_cons_succ, List.setIfInBounds_toArray, List.set_cons_zero, List.set_cons_succ]
  refine wpAnyH_take (i := 13) (v := ?_) rfl (by kernel_rfl) (by kernel_rfl) (by kernel_rfl) (fun _ _ _ h => h) (Or.inl ⟨by kernel_rfl, ?_⟩) (by assumption) ?_
  rotate_left
  · (intro w hSw; (try dsimp only at hSw); go_simp) <;> (try (with_reducible rfl))
  try simp only [Act.put, Array.getInternal_eq_getElem, List.getElem_toArray, List.getElem_cons_zero, List.getElem_cons_succ, List.setIfInBounds_toArray, List.set_cons_zero, List.set_cons_succ]
  refine wpAnyH_take (i := 14) (v := ?_) rfl (by kernel_rfl) (by kernel_rfl) (by kernel_rfl) (fun _ _ _ h => h) (Or.inl ⟨by kernel_rfl, ?_⟩) (by assumption) ?_
  rotate_left
  · (intro w hSw; (try dsimp only at hSw); go_simp) <;> (try (with_reducible rfl))
  try simp only [Act.put, Array.getInternal_eq_getElem, List.getElem_toArray, List.getElem_cons_zero, List.getElem_cons_succ, List.setIfInBounds_toArray, List.set_cons_zero, List.set_cons_succ]
  refine wpAnyH_take (i := 15) (v := ?_) rfl (by kernel_rfl) (by kernel_rfl) (by kernel_rfl) (fun _ _ _ h => h) (Or.inl ⟨by kernel_rfl, ?_⟩) (by assumption) ?_
  rotate_left
  · (intro w hSw; (try dsimp only at hSw); go_simp) <;> (try (with_reducible rfl))
  try simp only [Act.put, Array.getInternal_eq_getElem, List.getElem_toArray, List.getElem_cons_zero, List.getElem_cons_succ, List.setIfInBounds_toArray, List.set_cons_zero, List.set_cons_succ]
  refine wpAnyH_take (i := 16) (v := ?_) rfl (by kernel_rfl) (by kernel_rfl) (by kernel_rfl) (fun _ _ _ h => h) (Or.inl ⟨by kernel_rfl, ?_⟩) (by assumption) ?_
  rotate_left
  · (intro w hSw; (try dsimp only at hSw); go_simp) <;> (try (with_reducible rfl))
  try simp only [Act.put, Array.getInternal_eq_getElem, List.getElem_toArray, List.getElem_cons_zero, List.getElem_cons_succ, List.setIfInBounds_toArray, List.set_cons_zero, List.set_cons_succ]
  refine wpAnyH_take (i := 17) (v := ?_) rfl (by kernel_rfl) (by kernel_rfl) (by kernel_rfl) (fun _ _ _ h => h) (Or.inl ⟨by kernel_rfl, ?_⟩) (by assumption) ?_
  rotate_left
  · (intro w hSw; (try dsimp only at hSw); go_simp) <;> (try (with_reducible rfl))
  try simp only [Act.put, Array.getInternal_eq_getElem, List.getElem_toArray, List.getElem_cons_zero, List.getElem_cons_succ, List.setIfInBounds_toArray, List.set_cons_zero, List.set_cons_succ]
  refine wpAnyH_ready (rs := [18]) (by kernel_rfl) (by simp) ?_
  refine AllReadyH.cons rfl (fun K hK => ?_) AllReadyH.nil
  (rw [if_pos (by kernel_rfl)]; go_simp; go_at_call 30; refine ((HQ2.out _ ((Keeps.refl _ w9).drew))).mono ?_; rintro e wx ⟨rfl, h9⟩; subst wx)
  refine hK.out _ _ trivial (fun hHeld => ?_)
  clear hK K
  try simp only [Act.put, Array.getInternal_eq_getElem, List.getElem_toArray, List.getElem_cons_zero, List.getElem_cons_succ, List.setIfInBounds_toArray, List.set_cons_zero, List.set_cons_succ]
  refine wpAnyH_take (i := 19) (v := ?_) rfl (by kernel_rfl) (by kernel_rfl) (by kernel_rfl) (fun _ _ _ h => h) (Or.inl ⟨by kernel_rfl, ?_⟩) (by assumption) ?_
  rotate_left
  · (intro w hSw; (try dsimp only at hSw); go_simp) <;> (try (with_reducible rfl))
  try simp only [Act.put, Array.getInternal_eq_getElem, List.getElem_toArray, List.getElem_cons_zero, List.getElem_cons_succ, List.setIfInBounds_toArray, List.set_cons_zero, List.set_cons_succ]
  refine wpAnyH_take (i := 20) (v := ?_) rfl (by kernel_rfl) (by kernel_rfl) (by kernel_rfl) (fun _ _ _ h => h) (Or.inl ⟨by kernel_rfl, ?_⟩) (by assumption) ?_
  rotate_left
  · (intro w hSw; (try dsimp only at hSw); go_simp) <;> (try (with_reducible rfl))
  try simp only [Act.put, Array.getInternal_eq_getElem, List.getElem_toArray, List.getElem_cons_zero, List.getElem_cons_succ, List.setIfInBounds_toArray, List.set_cons_zero, List.set_cons_succ]
  refine wpAnyH_done ?_ ?_ _
  · kernel_rfl
  rw [← HWD.out]
  go_wp2_with fail
  --@14
  refine wp_region_held_drew (S := fun w' => w'.rangeAt w.heap.size 0 CK) (by kernel_rfl) (RG.out _ ((Keeps.refl _ wd).drew)) (fun hHeld => ?_)
  refine wpAnyH_take (i := 0) (v := ?_) rfl (by kernel_rfl) (by kernel_rfl) (by kernel_rfl) (fun _ _ _ h => h) (Or.inl ⟨by kernel_rfl, ?_⟩) (by assumption) ?_
  rotate_left
  · (intro w hSw; (try dsimp only at hSw); go_simp) <;> (try (with_reducible rfl))
  try simp only [Act.put, Array.getInternal_eq_getElem, List.getElem_toArray, List.getElem_cons_zero, List.getElem_cons_succ, List.setIfInBounds_toArray, List.set_cons_zero, List.set_cons_succ]
  refine wpAnyH_take (i := 1) (v := ?_) rfl (by kernel_rfl) (by kernel_rfl) (by kernel_rfl) (fun _ _ _ h => h) (Or.inl ⟨by kernel_rfl, ?_⟩) (by assumption) ?_
  rotate_left
  · (intro w hSw; (try dsimp only at hSw); go_simp) <;> (try (with_reducible rfl))
  try simp only [Act.put, Array.getInternal_eq_getElem, List.getElem_toArray, List.getElem_cons_zero, List.getElem_cons_succ, List.setIfInBounds_toArray, List.set_cons_zero, List.set_cons_succ]
  refine' wpAnyH_take (i := 3) (v := _) rfl (by kernel_rfl) (by kernel_rfl) (by kernel_rfl) (fun _ _ _ h => h) (yieldsIf_load_mid (by kernel_rfl) _ _ rfl _ _ rfl _ _ (fun w hSw => hSw) Try.underlying29 rfl HSZ.out) (by assumption) ?_
  try simp only [Act.put, Array.getInternal_eq_getElem, List.getElem_toArray, List.getElem_cons_zero, List.getElem_cons_succ, List.setIfInBounds_toArray, List.set_cons_zero, List.set_cons_succ]
  refine wpAnyH_take (i := 4) (v := ?_) rfl (by kernel_rfl) (by kernel_rfl) (by kernel_rfl) (fun _ _ _ h => h) (Or.inl ⟨by kernel_rfl, ?_⟩) (by assumption) ?_
  rotate_left
  · (intro w hSw; (try dsimp only at hSw); go_simp) <;> (try (with_reducible rfl))
  try simp only [Act.put, Array.getInternal_eq_getElem, List.getElem_toArray, List.getElem_cons_zero, List.getElem_cons_succ, List.setIfInBounds_toArray, List.set_cons_zero, List.set_cons_succ]
  refine wpAnyH_ready (rs := [2]) (by kernel_rfl) (by simp) ?_
  refine AllReadyH.cons rfl (fun K hK => ?_) AllReadyH.nil
  (rw [if_pos (by kernel_rfl)]; go_simp; go_at_call 65; refine ((HNS.out _ ((Keeps.refl _ wd).drew))).mono ?_; rintro e wx ⟨rfl, h9⟩; subst wx)
  refine hK.out _ _ (RG.out _ ((Keeps.refl _ wd).drew)) (fun hHeld => ?_)
  clear hK K
  try simp only [Act.put, Array.getInternal_eq_getElem, List.getElem_toArray, List.getElem_cons_zero, List.getElem_cons_succ, List.setIfInBounds_toArray, List.set_cons_zero, List.set_cons_succ]
  refine wpAnyH_ready (rs := [5]) (by kernel_rfl) (by simp) ?_
  refine AllReadyH.cons rfl (fun K hK => ?_) AllReadyH.nil
  (rw [if_pos (by kernel_rfl)]; go_simp; go_at_call 37; refine ((HSU.out _ ((Keeps.refl _ wd).drew))).mono ?_; rintro e wz ⟨rfl, kz⟩; have KZ := Lib.hid (((Keeps.refl (fun _ => False) wd).drew).trans (kz _)); clear kz)
  refine hK.out _ _ (RG.out _ KZ.out) (fun hHeld => ?_)
  clear hK K
  try simp only [Act.put, Array.getInternal_eq_getElem, List.getElem_toArray, List.getElem_cons_zero, List.getElem_cons_succ, List.setIfInBounds_toArray, List.set_cons_zero, List.set_cons_succ]
  refine wpAnyH_take (i := 6) (v := ?_) rfl (by kernel_rfl) (by kernel_rfl) (by kernel_rfl) (fun _ _ _ h => h) (Or.inl ⟨by kernel_rfl, ?_⟩) (by assumption) ?_
  rotate_left
  · (intro w hSw; (try dsimp only at hSw); go_simp) <;> (try (with_reducible rfl))
  try simp only [Act.put, Array.getInternal_eq_getElem, List.getElem_toArray, List.getElem_cons_zero, List.getElem_cons_succ, List.setIfInBounds_toArray, List.set_cons_zero, List.set_cons_succ]
  refine wpAnyH_done ?_ ?_ _
  · kernel_rfl
  go_wp2_with (first
    | (refine wpList_load_mid rfl 29 _ rfl w.heap.size 0 rfl CK _ (RG.out _ KZ.out) Try.underlying29 rfl HSZ.out ?_)
    | (refine' wpList_store_mid rfl 29 _ _ rfl (w.heap.size + 1) 0 (CK).toArray ?hx rfl ?ht HSZ.out HSO.out ?_; (case hx => rfl); (case ht => exact (HST.out _ KZ.out).1)))
  try rw [Exit.noGoto_ret]
  refine bodyPost_ret (Go.Proofs.Ytidengmcbppcoaa.wh.ret_cell (p := 4) (u := 5) (ty := 29) (by kernel_rfl) _ _ _ (w.heap.size + 1) _ _ _ (by rfl) (HST.out _ KZ.out).2.1 Try.underlying29 rfl HSZ.out) rfl ?_
  exact ⟨.slice A4 n4 c4, by rw [HCK.out]; rfl, past_ (By.keepF YD.out KZ.out) (HST.out _ KZ.out).2.2 (by omega) NZ.out⟩
end
end Go.Proofs.Ytidengmcbppcoaa.pk
