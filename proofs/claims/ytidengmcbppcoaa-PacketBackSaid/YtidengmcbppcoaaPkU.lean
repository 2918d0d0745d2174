/-
  packet.readFour, packet.readSix, packet.readFront; bytes.Clone.
-/
import Derived.Test.YtidengmcbppcoaaPkR
set_option linter.unusedVariables false
set_option linter.unusedSimpArgs false
namespace Go.Proofs.Ytidengmcbppcoaa.pk
open Go.RowKit Go.Proofs.Ytidengmcbppcoaa.oc Go.Proofs.Ytidengmcbppcoaa.mz Go.Proofs.Ytidengmcbppcoaa.pf Go.Proofs.Ytidengmcbppcoaa.wh Go.Proofs.Ytidengmcbppcoaa.qk Go.Proofs.Ytidengmcbppcoaa.bys
theorem sizeE_ok {n s f : Nat} (h : sizeE n s f = 0) : f ≤ s ∧ s ≤ 2048 ∧ s ≤ n := by
  unfold sizeE at h
  split at h
  · cases h
  · split at h
    · cases h
    · omega
theorem rd4_wf {l : List Nat} (hs : Small l) : (rd4 l).1.Wf := by
  unfold rd4
  split
  · exact hz_wf
  · split
    · exact hz_wf
    · split
      · exact hz_wf
      · split
        · exact hz_wf
        · split
          · exact hz_wf
          · exact hd4_wf hs (by omega)
theorem rd6_wf {l : List Nat} (hs : Small l) : (rd6 l).1.Wf := by
  unfold rd6
  split
  · exact hz_wf
  · split
    · exact hz_wf
    · exact hd6_wf hs (by omega)
section
variable (w : World)
theorem rfour_ (g o n c B : Nat) (l : List Nat) (hl : l.length = n) (h0 : 0 < n) (hn : n ≤ 140737488355328) (hc : n ≤ c) (hc9 : c ≤ 9223372036854775807) (hs : Small l) (hr : Rd w B (some ⟨g, o, none⟩) (by_ l)) (hB : B ≤ w.heap.size) : Calls Try.prog 62 #[.slice (some ⟨g, o, none⟩) n c] w fun e w' => RH w w' e (rd4 l) := by
  unfold rd4
  rw [hl]
  split
  · rename_i h; exact rfour_a w g o n c B l hl h0 hn hc hc9 hs hr hB h
  · rename_i hk
    split
    · rename_i hb; exact rfour_b w g o n c B l hl h0 hn hc hc9 hs hr hB (by omega) hb
    · rename_i hb
      have hb' : l.getD 0 0 = 69 := Classical.not_not.1 hb
      split
      · rename_i h6; exact rfour_c w g o n c B l hl h0 hn hc hc9 hs hr hB (by omega) hb' h6
      · rename_i h6
        have h6' : num2 l 6 = 16384 := Classical.not_not.1 h6
        split
        · rename_i he; exact rfour_d w g o n c B l hl h0 hn hc hc9 hs hr hB (by omega) hb' h6' he
        · rename_i he
          have he' := Classical.not_not.1 he
          split
          · rename_i hx; exact rfour_e w g o n c B l hl h0 hn hc hc9 hs hr hB (by omega) hb' h6' he' hx
          · rename_i hx; exact rfour_f w g o n c B l hl h0 hn hc hc9 hs hr hB (by omega) hb' h6' he' (Classical.not_not.1 hx)
theorem rsix_ (g o n c B : Nat) (l : List Nat) (hl : l.length = n) (h0 : 0 < n) (hn : n ≤ 140737488355328) (hc : n ≤ c) (hc9 : c ≤ 9223372036854775807) (hs : Small l) (hr : Rd w B (some ⟨g, o, none⟩) (by_ l)) (hB : B ≤ w.heap.size) : Calls Try.prog 63 #[.slice (some ⟨g, o, none⟩) n c] w fun e w' => RH w w' e (rd6 l) := by
  unfold rd6
  rw [hl]
  split
  · rename_i h; exact rsix_a w g o n c B l hl h0 hn hc hc9 hs hr hB h
  · rename_i hk
    split
    · rename_i he; exact rsix_d w g o n c B l hl h0 hn hc hc9 hs hr hB (by omega) he
    · rename_i he; exact rsix_f w g o n c B l hl h0 hn hc hc9 hs hr hB (by omega) (Classical.not_not.1 he)
set_option maxRecDepth 100000 in
set_option maxHeartbeats 1500000 in
theorem rfront_z (A : Option Addr) (c : Nat) :
    Calls Try.prog 51 #[.slice A 0 c] w fun e w' => RH w w' e (hz, 0, 160) := by
  unfold RH
  show Calls _ _ _ _ _
  obtain ⟨w1, hw1, k1, b1, s1⟩ := box1 w zhd 29
  dsimp only [zhd] at hw1
  obtain ⟨t2, b2, k2⟩ := p_store b1 (cs := zhd) rfl
  have HT2 := Lib.hid t2
  have HB2 := Lib.hid b2
  have HK2 := Lib.hid (keeps_own k1 k2 (Nat.le_refl _))
  clear t2 b2 k2
  have HZI := Lib.hid zhd_info
  have HZB := Lib.hid zhd_built
  have HZO := Lib.hid (all_oneCell_toArray zhd_one)
  have HW := Lib.hid hw1
  clear hw1 k1 b1 s1
  go_enter Try.func51, Try.ntmps51
  go_wp2_with (first
    | ((try with_reducible rw [← HW.out]); refine p_build rfl 29 _ rfl _ rfl _ HZB.out ?_)
    | (refine' wpList_store_mid rfl 29 _ _ rfl w.heap.size 0 (zhd).toArray ?hx rfl ?ht HZI.out HZO.out ?_; (case hx => rfl); (case ht => exact HT2.out)))
  try rw [Exit.noGoto_ret]
  refine bodyPost_ret (ret_cell2 (p := 2) (u := 3) (v := 4) (ty := 29) (by kernel_rfl) _ _ _ w.heap.size _ _ _ (by rfl) HB2.out Try.underlying29 rfl HZI.out) rfl ?_
  exact ⟨rfl, HK2.out⟩
set_option maxRecDepth 100000 in
set_option maxHeartbeats 1500000 in
theorem rfront_4 (g o n c B : Nat) (l : List Nat) (hl : l.length = n) (h0 : 0 < n) (hn : n ≤ 140737488355328) (hc : n ≤ c) (hc9 : c ≤ 9223372036854775807) (hs : Small l) (hr : Rd w B (some ⟨g, o, none⟩) (by_ l)) (hB : B ≤ w.heap.size) (hq : l.getD 0 0 / 16 = 4) :
    Calls Try.prog 51 #[.slice (some ⟨g, o, none⟩) n c] w fun e w' => RH w w' e (rd4 l) := by
  unfold RH
  show Calls _ _ _ _ _
  obtain ⟨w1, hw1, k1, b1, s1⟩ := box1 w zhd 29
  dsimp only [zhd] at hw1
  have hr1 := rd_old hr (k1 (fun _ => False))
  have c0 := rd_cell hr1 (k := 0) (by omega)
  rw [Nat.add_zero] at c0
  rw [hw1] at c0
  have h9 : l.getD 0 0 < 256 := getD_lt hs 0
  obtain ⟨b0, hb0⟩ : ∃ b0, b0 = l.getD 0 0 := ⟨_, rfl⟩
  rw [← hb0] at c0 hq h9
  obtain ⟨q, hqe⟩ : ∃ q, q = b0 / 16 := ⟨_, rfl⟩
  have z1 : (b0 : Int) / 16 = (q : Int) := by omega
  have d0 : ((n : Int) == 0) = false := beq_eq_false_iff_ne.2 (by omega)
  have d4 : ((q : Int) == 4) = true := beq_iff_eq.2 (by omega)
  have hwf := rd4_wf hs
  have HF : Hid (Calls Try.prog 62 #[.slice (some ⟨g, o, none⟩) n c] w1 fun e w' => RH w1 w' e (rd4 l)) := Lib.hid (rfour_ w1 g o n c B l hl h0 hn hc hc9 hs hr1 (by omega))
  have HST : Hid (∀ u, Keeps (fun _ => False) w1 u → u.there w.heap.size 0 (hcs (rd4 l).1 nul).toArray.size ∧ Blk (u.setCells w.heap.size 0 (hcs (rd4 l).1 nul)) w.heap.size 29 (hcs (rd4 l).1 nul) ∧ Keeps (· = w.heap.size) u (u.setCells w.heap.size 0 (hcs (rd4 l).1 nul))) := Lib.hid (fun u hu => p_store (Blk.keeps b1 hu (fun z => z)) (by rw [hcs_len hwf]; rfl))
  have HFZ : Hid ((Try.prog.info? 29).map (·.size) = some (hcs (rd4 l).1 nul).length) := Lib.hid (hd_sz hwf nul)
  have HFO := Lib.hid (all_oneCell_toArray (hcs_one (h := (rd4 l).1) (v := nul) rfl))
  have K1 := Lib.hid k1
  have HW := Lib.hid hw1
  unfold RH hvv at HF
  unfold hvv
  clear hw1 k1 b1 s1 hwf hr1 hr hs hl hB h9 hq hb0 hqe
  generalize hcs (rd4 l).1 nul = C at *
  generalize (rd4 l).2.1 = S0 at *
  generalize (rd4 l).2.2 = E0 at *
  go_enter Try.func51, Try.ntmps51
  go_wp2_with fail
  try rw [← HW.out]
  refine HF.out.mono ?_
  rintro e w2 ⟨rfl, k2⟩
  have K2 := Lib.hid k2
  clear k2
  go_wp2_with (refine' wpList_store_mid rfl 29 _ _ rfl w.heap.size 0 (C).toArray ?hx rfl ?ht HFZ.out HFO.out ?_; (case hx => rfl); (case ht => exact (HST.out _ (K2.out _)).1))
  try rw [Exit.noGoto_ret]
  refine bodyPost_ret (ret_cell2 (p := 2) (u := 3) (v := 4) (ty := 29) (by kernel_rfl) _ _ _ w.heap.size _ _ _ (by rfl) (HST.out _ (K2.out _)).2.1 Try.underlying29 rfl HFZ.out) rfl ?_
  exact ⟨rfl, keeps_own (fun S => (K1.out S).trans (K2.out S)) (HST.out _ (K2.out _)).2.2 (Nat.le_refl _)⟩
set_option maxRecDepth 100000 in
set_option maxHeartbeats 1500000 in
theorem rfront_6 (g o n c B : Nat) (l : List Nat) (hl : l.length = n) (h0 : 0 < n) (hn : n ≤ 140737488355328) (hc : n ≤ c) (hc9 : c ≤ 9223372036854775807) (hs : Small l) (hr : Rd w B (some ⟨g, o, none⟩) (by_ l)) (hB : B ≤ w.heap.size) (hq : l.getD 0 0 / 16 = 6) :
    Calls Try.prog 51 #[.slice (some ⟨g, o, none⟩) n c] w fun e w' => RH w w' e (rd6 l) := by
  unfold RH
  show Calls _ _ _ _ _
  obtain ⟨w1, hw1, k1, b1, s1⟩ := box1 w zhd 29
  dsimp only [zhd] at hw1
  have hr1 := rd_old hr (k1 (fun _ => False))
  have c0 := rd_cell hr1 (k := 0) (by omega)
  rw [Nat.add_zero] at c0
  rw [hw1] at c0
  have h9 : l.getD 0 0 < 256 := getD_lt hs 0
  obtain ⟨b0, hb0⟩ : ∃ b0, b0 = l.getD 0 0 := ⟨_, rfl⟩
  rw [← hb0] at c0 hq h9
  obtain ⟨q, hqe⟩ : ∃ q, q = b0 / 16 := ⟨_, rfl⟩
  have z1 : (b0 : Int) / 16 = (q : Int) := by omega
  have d0 : ((n : Int) == 0) = false := beq_eq_false_iff_ne.2 (by omega)
  have d4 : ((q : Int) == 4) = false := beq_eq_false_iff_ne.2 (by omega)
  have d6 : ((q : Int) == 6) = true := beq_iff_eq.2 (by omega)
  have hwf := rd6_wf hs
  have HF : Hid (Calls Try.prog 63 #[.slice (some ⟨g, o, none⟩) n c] w1 fun e w' => RH w1 w' e (rd6 l)) := Lib.hid (rsix_ w1 g o n c B l hl h0 hn hc hc9 hs hr1 (by omega))
  have HST : Hid (∀ u, Keeps (fun _ => False) w1 u → u.there w.heap.size 0 (hcs (rd6 l).1 nul).toArray.size ∧ Blk (u.setCells w.heap.size 0 (hcs (rd6 l).1 nul)) w.heap.size 29 (hcs (rd6 l).1 nul) ∧ Keeps (· = w.heap.size) u (u.setCells w.heap.size 0 (hcs (rd6 l).1 nul))) := Lib.hid (fun u hu => p_store (Blk.keeps b1 hu (fun z => z)) (by rw [hcs_len hwf]; rfl))
  have HFZ : Hid ((Try.prog.info? 29).map (·.size) = some (hcs (rd6 l).1 nul).length) := Lib.hid (hd_sz hwf nul)
  have HFO := Lib.hid (all_oneCell_toArray (hcs_one (h := (rd6 l).1) (v := nul) rfl))
  have K1 := Lib.hid k1
  have HW := Lib.hid hw1
  unfold RH hvv at HF
  unfold hvv
  clear hw1 k1 b1 s1 hwf hr1 hr hs hl hB h9 hq hb0 hqe
  generalize hcs (rd6 l).1 nul = C at *
  generalize (rd6 l).2.1 = S0 at *
  generalize (rd6 l).2.2 = E0 at *
  go_enter Try.func51, Try.ntmps51
  go_wp2_with fail
  try rw [← HW.out]
  refine HF.out.mono ?_
  rintro e w2 ⟨rfl, k2⟩
  have K2 := Lib.hid k2
  clear k2
  go_wp2_with (refine' wpList_store_mid rfl 29 _ _ rfl w.heap.size 0 (C).toArray ?hx rfl ?ht HFZ.out HFO.out ?_; (case hx => rfl); (case ht => exact (HST.out _ (K2.out _)).1))
  try rw [Exit.noGoto_ret]
  refine bodyPost_ret (ret_cell2 (p := 2) (u := 3) (v := 4) (ty := 29) (by kernel_rfl) _ _ _ w.heap.size _ _ _ (by rfl) (HST.out _ (K2.out _)).2.1 Try.underlying29 rfl HFZ.out) rfl ?_
  exact ⟨rfl, keeps_own (fun S => (K1.out S).trans (K2.out S)) (HST.out _ (K2.out _)).2.2 (Nat.le_refl _)⟩
set_option maxRecDepth 100000 in
set_option maxHeartbeats 1500000 in
theorem rfront_n (g o n c B : Nat) (l : List Nat) (hl : l.length = n) (h0 : 0 < n) (hn : n ≤ 140737488355328) (hc : n ≤ c) (hc9 : c ≤ 9223372036854775807) (hs : Small l) (hr : Rd w B (some ⟨g, o, none⟩) (by_ l)) (hB : B ≤ w.heap.size) (hq : l.getD 0 0 / 16 ≠ 4 ∧ l.getD 0 0 / 16 ≠ 6) :
    Calls Try.prog 51 #[.slice (some ⟨g, o, none⟩) n c] w fun e w' => RH w w' e (hz, 0, 161) := by
  unfold RH
  show Calls _ _ _ _ _
  obtain ⟨w1, hw1, k1, b1, s1⟩ := box1 w zhd 29
  dsimp only [zhd] at hw1
  have hr1 := rd_old hr (k1 (fun _ => False))
  have c0 := rd_cell hr1 (k := 0) (by omega)
  rw [Nat.add_zero] at c0
  rw [hw1] at c0
  have h9 : l.getD 0 0 < 256 := getD_lt hs 0
  obtain ⟨b0, hb0⟩ : ∃ b0, b0 = l.getD 0 0 := ⟨_, rfl⟩
  rw [← hb0] at c0 hq h9
  obtain ⟨q, hqe⟩ : ∃ q, q = b0 / 16 := ⟨_, rfl⟩
  have z1 : (b0 : Int) / 16 = (q : Int) := by omega
  have d0 : ((n : Int) == 0) = false := beq_eq_false_iff_ne.2 (by omega)
  have d4 : ((q : Int) == 4) = false := beq_eq_false_iff_ne.2 (by omega)
  have d6 : ((q : Int) == 6) = false := beq_eq_false_iff_ne.2 (by omega)
  obtain ⟨t2, b2, k2⟩ := p_store b1 (cs := zhd) rfl
  have HT2 := Lib.hid t2
  have HB2 := Lib.hid b2
  have HK2 := Lib.hid (keeps_own k1 k2 (Nat.le_refl _))
  clear t2 b2 k2
  have HZI := Lib.hid zhd_info
  have HZB := Lib.hid zhd_built
  have HZO := Lib.hid (all_oneCell_toArray zhd_one)
  have HW := Lib.hid hw1
  have HV : Hid (hvv hz nul = .agg zhd.toArray) := Lib.hid rfl
  dsimp only
  generalize hvv hz nul = V at *
  clear hw1 k1 b1 s1 hr1 hr hs hl hB h9 hq hb0 hqe
  go_enter Try.func51, Try.ntmps51
  go_wp2_with (first
    | ((try with_reducible rw [← HW.out]); refine p_build rfl 29 _ rfl _ rfl _ HZB.out ?_)
    | (refine' wpList_store_mid rfl 29 _ _ rfl w.heap.size 0 (zhd).toArray ?hx rfl ?ht HZI.out HZO.out ?_; (case hx => rfl); (case ht => exact HT2.out)))
  try rw [Exit.noGoto_ret]
  refine bodyPost_ret (ret_cell2 (p := 2) (u := 3) (v := 4) (ty := 29) (by kernel_rfl) _ _ _ w.heap.size _ _ _ (by rfl) HB2.out Try.underlying29 rfl HZI.out) rfl ?_
  exact ⟨by rw [HV.out]; rfl, HK2.out⟩
theorem rfront_ (A : Option Addr) (n c B : Nat) (l : List Nat) (hl : l.length = n) (hn : n ≤ 140737488355328) (hc : n ≤ c) (hc9 : c ≤ 9223372036854775807) (hs : Small l) (hr : Rd w B A (by_ l)) (hB : B ≤ w.heap.size) :
    Calls Try.prog 51 #[.slice A n c] w fun e w' => RH w w' e (rdF l) := by
  unfold rdF
  split
  · rename_i h
    obtain rfl : n = 0 := by omega
    exact rfront_z w A c
  · rename_i h
    obtain ⟨g, o, rfl, _, _⟩ := hr.byte (getq (bs := l) (k := 0) (by omega))
    split
    · rename_i h4; exact rfront_4 w g o n c B l hl (by omega) hn hc hc9 hs hr hB h4
    · rename_i h4
      split
      · rename_i h6; exact rfront_6 w g o n c B l hl (by omega) hn hc hc9 hs hr hB h6
      · rename_i h6; exact rfront_n w g o n c B l hl (by omega) hn hc hc9 hs hr hB ⟨h4, h6⟩
set_option maxRecDepth 100000 in
set_option maxHeartbeats 1500000 in
theorem clone_ (g o n c B : Nat) (l : List Nat) (hl : l.length = n) (hn : n ≤ 140737480000000) (hr : Rd w B (some ⟨g, o, none⟩) (by_ l)) :
    Calls Try.prog 64 #[.slice (some ⟨g, o, none⟩) n c] w fun e w' => ∃ v, e = .returned v ∧ By w w' v l := by
  obtain ⟨w1, hw1, k1, b1, s1⟩ := box1 w [] 5
  have Y1 : By w w1 (.slice (some ⟨w.heap.size, 0, none⟩) 0 0) [] := By.of_blk b1 rfl (Nat.le_refl _) (by omega) k1
  have HY := Lib.hid Y1
  have HR := Lib.hid (rd_old hr (k1 (fun _ => False)))
  have HL := Lib.hid hl
  have HW := Lib.hid hw1
  have hnl : ∀ u, (binOp .eql 27 (.slice (some ⟨g, o, none⟩) n c) (.slice none 0 0)).run Try.prog u = .ok (.bool false) u := fun u => by kernel_rfl
  clear hw1 k1 b1 s1 hr hl Y1
  go_enter Try.func64, Try.ntmps64
  go_wp2_with ((try with_reducible rw [← HW.out]); refine By.wpList_append rfl _ _ rfl HY.out rfl (some ⟨g, o, none⟩) n c B l rfl HL.out HR.out (by simp; omega) ?_; intro v3 w3 y3 k3; have Y3 := Lib.hid y3; clear y3 k3)
  try rw [Exit.noGoto_ret]
  go_ret
  exact ⟨_, rfl, Y3.out⟩
end
end Go.Proofs.Ytidengmcbppcoaa.pk
