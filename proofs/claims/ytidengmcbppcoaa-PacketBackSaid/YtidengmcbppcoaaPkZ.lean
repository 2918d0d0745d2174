/-
  packet.readRest, whole; packet.Read.
-/
import Derived.Test.YtidengmcbppcoaaPkX
import Derived.Test.YtidengmcbppcoaaPkY
set_option linter.unusedVariables false
set_option linter.unusedSimpArgs false
namespace Go.Proofs.Ytidengmcbppcoaa.pk
open Go.RowKit Go.Proofs.Ytidengmcbppcoaa.oc Go.Proofs.Ytidengmcbppcoaa.mz Go.Proofs.Ytidengmcbppcoaa.pf Go.Proofs.Ytidengmcbppcoaa.wh Go.Proofs.Ytidengmcbppcoaa.qk Go.Proofs.Ytidengmcbppcoaa.bys
theorem rdT_wf {h : Hd} {l : List Nat} (hw : h.Wf) (hs : Small l) : (rdT h l).1.Wf := by
  unfold rdT
  repeat' split
  all_goals first | exact hz_wf | exact kt_wf hw hs
theorem rdU_wf {h : Hd} {l : List Nat} (hw : h.Wf) (hs : Small l) : (rdU h l).1.Wf := by
  unfold rdU
  repeat' split
  all_goals first | exact hz_wf | exact ku_wf hw hs
theorem rdR_wf {h : Hd} {l : List Nat} (hw : h.Wf) (hs : Small l) : (rdR h l).1.Wf := by
  unfold rdR
  split
  · exact rdT_wf hw hs
  · split
    · exact rdU_wf hw hs
    · exact kn_wf hw hs
theorem rdF_wf {l : List Nat} (hs : Small l) : (rdF l).1.Wf := by
  unfold rdF
  repeat' split
  all_goals first | exact hz_wf | exact rd4_wf hs | exact rd6_wf hs
/-- what a front without an error says of the length -/
theorem rdF_ok {l : List Nat} (h : (rdF l).2.2 = 0) : 0 < l.length ∧ fsz (rdF l).1 ≤ (rdF l).2.1 ∧ (rdF l).2.1 ≤ 2048 ∧ (rdF l).2.1 ≤ l.length := by
  have h4 : (rd4 l).2.2 = 0 → 0 < l.length ∧ fsz (rd4 l).1 ≤ (rd4 l).2.1 ∧ (rd4 l).2.1 ≤ 2048 ∧ (rd4 l).2.1 ≤ l.length := fun h => by
    by_cases z1 : l.length < 20
    · unfold rd4 at h; rw [if_pos z1] at h; cases h
    · by_cases z2 : l.getD 0 0 ≠ 69
      · unfold rd4 at h; rw [if_neg z1, if_pos z2] at h; cases h
      · by_cases z3 : num2 l 6 ≠ 16384
        · unfold rd4 at h; rw [if_neg z1, if_neg z2, if_pos z3] at h; cases h
        · by_cases z4 : sizeE l.length (num2 l 2) 20 ≠ 0
          · unfold rd4 at h; rw [if_neg z1, if_neg z2, if_neg z3, if_pos z4] at h; exact absurd h z4
          · by_cases z5 : num2 l 10 ≠ csum (l.take 10 ++ (l.drop 12).take 8)
            · unfold rd4 at h; rw [if_neg z1, if_neg z2, if_neg z3, if_neg z4, if_pos z5] at h; cases h
            · have e : rd4 l = (hd4 l, num2 l 2, 0) := by unfold rd4; rw [if_neg z1, if_neg z2, if_neg z3, if_neg z4, if_neg z5]
              rw [e]
              have := sizeE_ok (Classical.not_not.1 z4)
              have hf : fsz (hd4 l) = 20 := rfl
              show 0 < l.length ∧ fsz (hd4 l) ≤ num2 l 2 ∧ _
              rw [hf]
              exact ⟨by omega, this⟩
  have h6 : (rd6 l).2.2 = 0 → 0 < l.length ∧ fsz (rd6 l).1 ≤ (rd6 l).2.1 ∧ (rd6 l).2.1 ≤ 2048 ∧ (rd6 l).2.1 ≤ l.length := fun h => by
    by_cases z1 : l.length < 40
    · unfold rd6 at h; rw [if_pos z1] at h; cases h
    · by_cases z4 : sizeE l.length (40 + num2 l 4) 40 ≠ 0
      · unfold rd6 at h; rw [if_neg z1, if_pos z4] at h; exact absurd h z4
      · have e : rd6 l = (hd6 l, 40 + num2 l 4, 0) := by unfold rd6; rw [if_neg z1, if_neg z4]
        rw [e]
        have := sizeE_ok (Classical.not_not.1 z4)
        have hf : fsz (hd6 l) = 40 := rfl
        show 0 < l.length ∧ fsz (hd6 l) ≤ 40 + num2 l 4 ∧ _
        rw [hf]
        exact ⟨by omega, this⟩
  unfold rdF at h ⊢
  by_cases z0 : l.length = 0
  · rw [if_pos z0] at h; cases h
  · rw [if_neg z0] at h ⊢
    by_cases z4 : l.getD 0 0 / 16 = 4
    · rw [if_pos z4] at h ⊢; exact h4 h
    · rw [if_neg z4] at h ⊢
      by_cases z6 : l.getD 0 0 / 16 = 6
      · rw [if_pos z6] at h ⊢; exact h6 h
      · rw [if_neg z6] at h; cases h
def resto (l : List Nat) : List Nat := (l.drop (fsz (rdF l).1)).take ((rdF l).2.1 - fsz (rdF l).1)
/-- what Read answers -/
def rdd (l : List Nat) : Hd × Nat × Int :=
  if (rdF l).2.2 ≠ 0 then (hz, 0, (rdF l).2.2) else if (rdR (rdF l).1 (resto l)).2 ≠ 0 then (hz, 0, (rdR (rdF l).1 (resto l)).2) else ((rdR (rdF l).1 (resto l)).1, (rdF l).2.1, 0)
def RA (w w' : World) (e : Ending) (x : Hd × Nat × Int) : Prop := ∃ v, e = .returned (.tuple #[hvv x.1 v, .int .i64 (x.2.1 : Int), .int .i64 x.2.2]) ∧ By w w' v x.1.dat
theorem rdd_wf {l : List Nat} (hs : Small l) : (rdd l).1.Wf := by
  unfold rdd
  split
  · exact hz_wf
  · split
    · exact hz_wf
    · exact rdR_wf (rdF_wf hs) ((hs.drop _).take _)
section
variable (w : World)
theorem rrest_ (h : Hd) (hw : h.Wf) (g o m c B : Nat) (l : List Nat) (hl : l.length = m) (hm : m ≤ 140737480000000) (hc : m ≤ c) (hc9 : c ≤ 9223372036854775807) (hs : Small l) (hr : Rd w B (some ⟨g, o, none⟩) (by_ l)) (hB : B ≤ w.heap.size) : Calls Try.prog 52 #[hvv h nul, .slice (some ⟨g, o, none⟩) m c] w fun e w' => RK w w' e (rdR h l) := by
  unfold rdR
  split
  · rename_i hp
    unfold rdT
    rw [hl]
    split
    · rename_i hk; exact rrt_a w h hw g o m c B l hl hm hc hc9 hs hr hB hp hk
    · split
      · rename_i ha; exact rrt_i w h hw g o m c B l hl hm hc hc9 hs hr hB hp (by omega) ha
      · rename_i hk ha
        have ha' := Classical.not_not.1 ha
        split
        · rename_i hb; exact rrt_ii w h hw g o m c B l hl hm hc hc9 hs hr hB hp (by omega) ha' hb
        · rename_i hb
          have hb' := Classical.not_not.1 hb
          split
          · rename_i hx; exact rrt_iii w h hw g o m c B l hl hm hc hc9 hs hr hB hp (by omega) ha' hb' hx
          · rename_i hx; exact rrt_iv w h hw g o m c B l hl hm hc hc9 hs hr hB hp (by omega) ha' hb' (Classical.not_not.1 hx)
  · rename_i h6
    split
    · rename_i hp
      unfold rdU
      rw [hl]
      split
      · rename_i hk; exact rru_a w h hw g o m c B l hl hm hc hc9 hs hr hB hp hk
      · split
        · rename_i ha; exact rru_i w h hw g o m c B l hl hm hc hc9 hs hr hB hp (by omega) ha
        · rename_i hk ha
          have ha' := Classical.not_not.1 ha
          have hb' : (l.drop 8).take 0 = (mid (ku h l)).drop 8 := by
            rw [List.take_zero, List.drop_eq_nil_of_le]
            rw [mid_len, show (ku h l).pr = 17 from hp]; decide
          split
          · rename_i hx; exact rru_iii w h hw g o m c B l hl hm hc hc9 hs hr hB hp (by omega) ha' hb' hx
          · rename_i hx; exact rru_iv w h hw g o m c B l hl hm hc hc9 hs hr hB hp (by omega) ha' hb' (Classical.not_not.1 hx)
    · rename_i h7
      exact rrn w h hw g o m c B l hl hm hc hc9 hs hr hB h6 h7
set_option maxRecDepth 100000 in
set_option maxHeartbeats 2000000 in
theorem read_e (A : Option Addr) (n c B : Nat) (l : List Nat) (hl : l.length = n) (hn : n ≤ 140737488355328) (hc : n ≤ c) (hc9 : c ≤ 9223372036854775807) (hs : Small l) (hr : Rd w B A (by_ l)) (hB : B ≤ w.heap.size) (he : (rdF l).2.2 ≠ 0) :
    Calls Try.prog 26 #[.slice A n c] w fun e w' => RA w w' e (hz, 0, (rdF l).2.2) := by
  unfold RA
  dsimp only
  obtain ⟨w1, hw1, k1, b1, s1⟩ := box1 w zhd 29
  dsimp only [zhd] at hw1
  have hr1 := rd_old hr (k1 (fun _ => False))
  have HF : Hid (Calls Try.prog 51 #[.slice A n c] w1 fun e w' => RH w1 w' e (rdF l)) := Lib.hid (rfront_ w1 A n c B l hl (by omega) hc hc9 hs hr1 (by omega))
  have hwf := rdF_wf hs
  have HZI := Lib.hid zhd_info
  have HZB := Lib.hid zhd_built
  have HZO := Lib.hid (all_oneCell_toArray zhd_one)
  have HFZ : Hid ((Try.prog.info? 29).map (·.size) = some (hcs (rdF l).1 nul).length) := Lib.hid (hd_sz hwf nul)
  have HFO := Lib.hid (all_oneCell_toArray (hcs_one (h := (rdF l).1) (v := nul) rfl))
  have HWF := Lib.hid hwf
  have HW := Lib.hid hw1
  have K1 := Lib.hid k1
  have HB1 := Lib.hid b1
  have HR1 := Lib.hid hr1
  have HLS := Lib.hid (And.intro hl (And.intro hs hB))
  have HS1 := Lib.hid s1
  unfold RH at HF
  generalize (rdF l).2.2 = E at *
  have d1 : (E == 0) = false := beq_eq_false_iff_ne.2 he
  have d2 : (E != 0) = true := bne_iff_ne.2 he
  try unfold RH at HF
  unfold hvv at HF
  clear hw1 k1 b1 s1 hwf hr1 hr hs hl hB
  generalize hC1 : hcs (rdF l).1 nul = C1 at HF HFZ HFO
  generalize (rdF l).2.1 = s0 at *
  go_enter Try.func26, Try.ntmps26
  go_wp2_with fail
  try rw [← HW.out]
  refine HF.out.mono ?_
  rintro e w2 ⟨rfl, k2⟩
  obtain ⟨wz, hwz, kz, bz, sz⟩ := box1 w2 zhd 29
  dsimp only [zhd] at hwz
  have HWZ := Lib.hid hwz
  obtain ⟨t3, b3, k3⟩ := p_store bz (cs := C1) (by rw [← hC1, hcs_len HWF.out]; rfl)
  obtain ⟨w3, hw3⟩ : ∃ w3, w3 = wz.setCells w2.heap.size 0 C1 := ⟨_, rfl⟩
  rw [← hw3] at b3 k3
  have HT3 := Lib.hid t3
  have HW3 := Lib.hid hw3
  have kw3 : ∀ S, Keeps S w1 w3 := keeps_own (fun S => (k2 S).trans (kz S)) k3 (k2 (fun _ => False)).size
  have b13 : Blk w3 w.heap.size 29 zhd := Blk.keeps HB1.out (kw3 (fun _ => False)) (fun z => z)
  have s3 : w2.heap.size + 1 ≤ w3.heap.size := by have := k3.size; omega
  have s2 : w.heap.size + 1 ≤ w2.heap.size := by have := (k2 (fun _ => False)).size; have := HS1.out; omega
  have kk3 : ∀ S, Keeps S w w3 := fun S => (K1.out S).trans (kw3 S)
  obtain ⟨tq, bq, kq⟩ := p_store b13 (cs := zhd) rfl
  have HTQ := Lib.hid tq
  have HBQ := Lib.hid bq
  have HKQ := Lib.hid (keeps_own kk3 kq (Nat.le_refl _))
  clear hwz kz bz sz t3 b3 k3 hw3 kw3 b13 s3 s2 kk3 tq bq kq k2
  go_wp2_with (first
    | ((with_reducible show wpList _ _ _ (⟨some 28, _, _, _, _, _⟩ :: _) _ _); refine p_build rfl 29 _ rfl _ rfl _ HZB.out ?_)
    | ((with_reducible show wpList _ _ _ (⟨none, .store _ (.tmp 5) _, _, _, _, _⟩ :: _) _ _); (try with_reducible rw [← HWZ.out]); ((with_reducible show wpList _ _ _ (⟨none, .store _ (.tmp 5) _, _, _, _, _⟩ :: _) _ _); refine' wpList_store_mid rfl 29 _ _ rfl w2.heap.size 0 (C1).toArray ?hx rfl ?ht HFZ.out HFO.out ?_; (case hx => rfl); (case ht => exact HT3.out)); rw [← HW3.out])
    | ((with_reducible show wpList _ _ _ (⟨none, .store _ (.tmp 2) _, _, _, _, _⟩ :: _) _ _); refine' wpList_store_mid rfl 29 _ _ rfl w.heap.size 0 (zhd).toArray ?hx rfl ?ht HZI.out HZO.out ?_; (case hx => rfl); (case ht => exact HTQ.out)))
  try rw [Exit.noGoto_ret]
  refine bodyPost_ret (ret_cell2 (p := 2) (u := 3) (v := 4) (ty := 29) (by kernel_rfl) _ _ _ w.heap.size _ _ _ (by rfl) HBQ.out Try.underlying29 rfl HZI.out) rfl ?_
  exact ⟨nul, rfl, By.nil_ HKQ.out⟩
set_option maxRecDepth 100000 in
set_option maxHeartbeats 2000000 in
theorem read_r (A : Option Addr) (n c B : Nat) (l : List Nat) (hl : l.length = n) (hn : n ≤ 140737488355328) (hc : n ≤ c) (hc9 : c ≤ 9223372036854775807) (hs : Small l) (hr : Rd w B A (by_ l)) (hB : B ≤ w.heap.size) (he : (rdF l).2.2 = 0) (hx : (rdR (rdF l).1 (resto l)).2 ≠ 0) :
    Calls Try.prog 26 #[.slice A n c] w fun e w' => RA w w' e (hz, 0, (rdR (rdF l).1 (resto l)).2) := by
  unfold RA
  dsimp only
  obtain ⟨w1, hw1, k1, b1, s1⟩ := box1 w zhd 29
  dsimp only [zhd] at hw1
  have hr1 := rd_old hr (k1 (fun _ => False))
  have HF : Hid (Calls Try.prog 51 #[.slice A n c] w1 fun e w' => RH w1 w' e (rdF l)) := Lib.hid (rfront_ w1 A n c B l hl (by omega) hc hc9 hs hr1 (by omega))
  have hwf := rdF_wf hs
  have HZI := Lib.hid zhd_info
  have HZB := Lib.hid zhd_built
  have HZO := Lib.hid (all_oneCell_toArray zhd_one)
  have HFZ : Hid ((Try.prog.info? 29).map (·.size) = some (hcs (rdF l).1 nul).length) := Lib.hid (hd_sz hwf nul)
  have HFO := Lib.hid (all_oneCell_toArray (hcs_one (h := (rdF l).1) (v := nul) rfl))
  have HWF := Lib.hid hwf
  have HW := Lib.hid hw1
  have K1 := Lib.hid k1
  have HB1 := Lib.hid b1
  have HR1 := Lib.hid hr1
  have HLS := Lib.hid (And.intro hl (And.intro hs hB))
  have HS1 := Lib.hid s1
  obtain ⟨h0, hf1, hf2, hf3⟩ := rdF_ok he
  obtain ⟨g, o, rfl, _, _⟩ := hr.byte (getq (bs := l) (k := 0) h0)
  have HF0 := Lib.hid (And.intro hf1 (And.intro hf2 hf3))
  have HHX := Lib.hid hx
  unfold RH at HF
  rw [he] at HF
  obtain ⟨f0, hf0⟩ : ∃ f0, f0 = fsz (rdF l).1 := ⟨_, rfl⟩
  obtain ⟨s9, hs9⟩ : ∃ s9, s9 = (rdF l).2.1 := ⟨_, rfl⟩
  have hrs : resto l = (l.drop f0).take (s9 - f0) := by rw [hf0, hs9]; rfl
  rw [← hf0, ← hs9] at hf1
  rw [← hs9] at hf2 hf3
  have hfs : f0 ≤ 40 := by rw [hf0]; unfold fsz; split <;> omega
  obtain ⟨o2, ho2⟩ := cutA_form g o c f0
  obtain ⟨m, hm⟩ : ∃ m, m = s9 - f0 := ⟨_, rfl⟩
  obtain ⟨c2, hc2⟩ : ∃ c2, c2 = c - f0 := ⟨_, rfl⟩
  have q1 : ∀ u, (Instr.slice 27 (.slice (some ⟨g, o, none⟩) n c) (some (.int .i64 (f0 : Int))) (some (.int .i64 (s9 : Int))) none).run Try.prog u = .ok (.slice (some ⟨g, o2, none⟩) m c2) u := fun u => by rw [hm, hc2, ← ho2]; exact cut_lh (some ⟨g, o, none⟩) n c f0 s9 hf1 (by omega) u
  have hrl : (resto l).length = m := by rw [hrs, List.length_take, List.length_drop]; omega
  have hrd : ∀ u, Keeps (fun _ => False) w1 u → Rd u B (some ⟨g, o2, none⟩) (by_ (resto l)) := fun u hu => by
    have := rd_take (rd_cut (rd_old hr1 hu) (c := c) f0 (by omega)) (s9 - f0)
    rw [ho2, ← hrs] at this
    exact this
  have hrs2 : Small (resto l) := by rw [hrs]; exact (hs.drop _).take _
  have HFS : ∀ u, Hid (Calls Try.prog 40 #[hvv (rdF l).1 nul] u fun e w' => e = .returned (.int .i64 (f0 : Nat)) ∧ ∀ S, Keeps S u w') := fun u => Lib.hid (by rw [hf0]; exact pfsz_ u (rdF l).1 nul hwf)
  have hm9 : m ≤ 140737480000000 := by omega
  have hmc : m ≤ c2 := by omega
  have hc29 : c2 ≤ 9223372036854775807 := by omega
  have HRR : Hid (∀ u, Keeps (fun _ => False) w1 u → Calls Try.prog 52 #[hvv (rdF l).1 nul, .slice (some ⟨g, o2, none⟩) m c2] u fun e w' => RK u w' e (rdR (rdF l).1 (resto l))) := Lib.hid (fun u hu => rrest_ u (rdF l).1 hwf g o2 m c2 B (resto l) hrl hm9 hmc hc29 hrs2 (hrd u hu) (by have := hu.size; omega))
  have hxw : (rdR (rdF l).1 (resto l)).1.Wf := rdR_wf hwf hrs2
  have HXW := Lib.hid hxw
  obtain ⟨X, hX⟩ : ∃ X, X = rdR (rdF l).1 (resto l) := ⟨_, rfl⟩
  rw [← hX] at HRR hx HXW HHX
  try rw [← hX]
  unfold RK at HRR
  have HS9 := Lib.hid hs9
  try rw [← hs9]
  unfold hvv at HFS HRR
  have d2 : (X.2 != 0) = true := bne_iff_ne.2 hx
  clear hx
  clear ho2 hrl hrd hrs2 hxw hX h0 hf1 hf2 hf3 hm hc2 hf0 hrs hm9 hmc hc29
  try unfold RH at HF
  unfold hvv at HF
  clear hw1 k1 b1 s1 hwf hr1 hr hs hl hB
  rw [← hs9] at HF
  clear hs9
  generalize hC1 : hcs (rdF l).1 nul = C1 at HF HFZ HFO HFS HRR
  go_enter Try.func26, Try.ntmps26
  go_wp2_with fail
  try rw [← HW.out]
  refine HF.out.mono ?_
  rintro e w2 ⟨rfl, k2⟩
  obtain ⟨wz, hwz, kz, bz, sz⟩ := box1 w2 zhd 29
  dsimp only [zhd] at hwz
  have HWZ := Lib.hid hwz
  obtain ⟨t3, b3, k3⟩ := p_store bz (cs := C1) (by rw [← hC1, hcs_len HWF.out]; rfl)
  obtain ⟨w3, hw3⟩ : ∃ w3, w3 = wz.setCells w2.heap.size 0 C1 := ⟨_, rfl⟩
  rw [← hw3] at b3 k3
  have HT3 := Lib.hid t3
  have HW3 := Lib.hid hw3
  have kw3 : ∀ S, Keeps S w1 w3 := keeps_own (fun S => (k2 S).trans (kz S)) k3 (k2 (fun _ => False)).size
  have b13 : Blk w3 w.heap.size 29 zhd := Blk.keeps HB1.out (kw3 (fun _ => False)) (fun z => z)
  have s3 : w2.heap.size + 1 ≤ w3.heap.size := by have := k3.size; omega
  have s2 : w.heap.size + 1 ≤ w2.heap.size := by have := (k2 (fun _ => False)).size; have := HS1.out; omega
  have kk3 : ∀ S, Keeps S w w3 := fun S => (K1.out S).trans (kw3 S)
  have HC3 : Hid (∀ wq, Keeps (fun _ => False) w3 wq → wq.rangeAt w2.heap.size 0 C1) := Lib.hid (fun wq kq => Blk.range (Blk.keeps b3 kq (fun z => z)))
  have KW3 := Lib.hid kw3
  have KK3 := Lib.hid kk3
  have HB3 := Lib.hid b3
  have HB13 := Lib.hid b13
  have HS3 := Lib.hid (And.intro s2 s3)
  clear hwz kz bz sz t3 b3 k3 hw3 kw3 b13 s3 s2 kk3 k2
  go_wp2_with ((with_reducible show wpList _ _ _ (⟨none, .store _ (.tmp 5) _, _, _, _, _⟩ :: _) _ _); (try with_reducible rw [← HWZ.out]); ((with_reducible show wpList _ _ _ (⟨none, .store _ (.tmp 5) _, _, _, _, _⟩ :: _) _ _); refine' wpList_store_mid rfl 29 _ _ rfl w2.heap.size 0 (C1).toArray ?hx rfl ?ht HFZ.out HFO.out ?_; (case hx => rfl); (case ht => exact HT3.out)); rw [← HW3.out])
  --@3
  refine wp_region_held_drew (S := fun _ => True) (by kernel_rfl) trivial (fun hHeld => ?_)
  refine wpAnyH_take (i := 1) (v := ?_) rfl (by kernel_rfl) (by kernel_rfl) (by kernel_rfl) (fun _ _ _ h => h) (Or.inl ⟨by kernel_rfl, ?_⟩) (by assumption) ?_
  rotate_left
  · (intro w hSw; (try dsimp only at hSw); go_simp) <;> (try (with_reducible rfl))
  try simp only [Act.put, Array.getInternal_eq_getElem, List.getElem_toArray, List.getElem_cons_zero, List.getElem_cons_succ, List.setIfInBounds_toArray, List.set_cons_zero, List.set_cons_succ]
  refine wpAnyH_take (i := 4) (v := ?_) rfl (by kernel_rfl) (by kernel_rfl) (by kernel_rfl) (fun _ _ _ h => h) (Or.inl ⟨by kernel_rfl, ?_⟩) (by assumption) ?_
  rotate_left
  · (intro w hSw; (try dsimp only at hSw); go_simp) <;> (try (with_reducible rfl))
  try simp only [Act.put, Array.getInternal_eq_getElem, List.getElem_toArray, List.getElem_cons_zero, List.getElem_cons_succ, List.setIfInBounds_toArray, List.set_cons_zero, List.set_cons_succ]
  refine wpAnyH_ready (rs := [0, 2]) (by kernel_rfl) (by simp) ?_
  refine AllReadyH.cons rfl (fun K hK => ?_) (AllReadyH.cons rfl (fun K hK => ?_) AllReadyH.nil)
  · (rw [if_pos (by kernel_rfl)]; simp only [Array.getInternal_eq_getElem, List.getElem_toArray, List.getElem_cons_zero, List.getElem_cons_succ]; refine wp_load_mid 29 _ rfl w2.heap.size 0 rfl C1 _ (HC3.out _ ((Keeps.refl _ w3).drew)) Try.underlying29 rfl HFZ.out ?_)
    refine hK.out _ _ trivial (fun hHeld => ?_)
    clear hK K
    try simp only [Act.put, Array.getInternal_eq_getElem, List.getElem_toArray, List.getElem_cons_zero, List.getElem_cons_succ, List.setIfInBounds_toArray, List.set_cons_zero, List.set_cons_succ]
    refine wpAnyH_ready (rs := [2]) (by kernel_rfl) (by simp) ?_
    refine AllReadyH.cons rfl (fun K hK => ?_) AllReadyH.nil
    (rw [if_pos (by kernel_rfl)]; simp only [Array.getInternal_eq_getElem, List.getElem_toArray, List.getElem_cons_zero, List.getElem_cons_succ]; refine wp_load_mid 29 _ rfl w2.heap.size 0 rfl C1 _ (HC3.out _ ((Keeps.refl _ w3).drew)) Try.underlying29 rfl HFZ.out ?_)
    refine hK.out _ _ trivial (fun hHeld => ?_)
    clear hK K
    try simp only [Act.put, Array.getInternal_eq_getElem, List.getElem_toArray, List.getElem_cons_zero, List.getElem_cons_succ, List.setIfInBounds_toArray, List.set_cons_zero, List.set_cons_succ]
    refine wpAnyH_ready (rs := [3]) (by kernel_rfl) (by simp) ?_
    refine AllReadyH.cons rfl (fun K hK => ?_) AllReadyH.nil
    (rw [if_pos (by kernel_rfl)]; go_simp; go_at_call 40; refine ((HFS _).out).mono ?_; rintro e wa ⟨rfl, ka⟩; have KA := Lib.hid (((Keeps.refl (fun _ => False) w3).drew).trans (ka _)); clear ka)
    refine hK.out _ _ trivial (fun hHeld => ?_)
    clear hK K
    try simp only [Act.put, Array.getInternal_eq_getElem, List.getElem_toArray, List.getElem_cons_zero, List.getElem_cons_succ, List.setIfInBounds_toArray, List.set_cons_zero, List.set_cons_succ]
    refine wpAnyH_take (i := 5) (v := ?_) rfl (by kernel_rfl) (by kernel_rfl) (by kernel_rfl) (fun _ _ _ h => h) (Or.inl ⟨by kernel_rfl, ?_⟩) (by assumption) ?_
    rotate_left
    · (intro w hSw; (try dsimp only at hSw); go_simp) <;> (try (with_reducible rfl))
    try simp only [Act.put, Array.getInternal_eq_getElem, List.getElem_toArray, List.getElem_cons_zero, List.getElem_cons_succ, List.setIfInBounds_toArray, List.set_cons_zero, List.set_cons_succ]
    refine wpAnyH_ready (rs := [6]) (by kernel_rfl) (by simp) ?_
    refine AllReadyH.cons rfl (fun K hK => ?_) AllReadyH.nil
    (rw [if_pos (by kernel_rfl)]; go_simp; go_at_call 52; refine (HRR.out _ ((KW3.out _).trans KA.out)).mono ?_; rintro e wb ⟨v, rfl, yb⟩; have YB := Lib.hid yb; have KB := Lib.hid (KA.out.trans (yb.keep _)); clear yb; obtain ⟨tq, bq, kq⟩ := p_store (cs := hcs X.1 v) (Blk.keeps HB3.out KB.out (fun z => z)) (by rw [hcs_len HXW.out, ← hC1, hcs_len HWF.out]); have HTQ := Lib.hid tq; have HBQ := Lib.hid bq; have HKQ := Lib.hid kq; have HXZ := Lib.hid (hd_sz HXW.out v); have HXO : Hid (((hcs X.1 v).toArray.all fun x => x.oneCell') = true) := Lib.hid (by obtain ⟨A9, c9, rfl, _⟩ := YB.out.rd; exact all_oneCell_toArray (hcs_one rfl)); clear tq bq kq; generalize hCX : hcs X.1 v = CX at *; have HCX := Lib.hid hCX; clear hCX)
    refine hK.out _ _ trivial (fun hHeld => ?_)
    clear hK K
    try simp only [Act.put, Array.getInternal_eq_getElem, List.getElem_toArray, List.getElem_cons_zero, List.getElem_cons_succ, List.setIfInBounds_toArray, List.set_cons_zero, List.set_cons_succ]
    refine wpAnyH_take (i := 7) (v := ?_) rfl (by kernel_rfl) (by kernel_rfl) (by kernel_rfl) (fun _ _ _ h => h) (Or.inl ⟨by kernel_rfl, ?_⟩) (by assumption) ?_
    rotate_left
    · (intro w hSw; (try dsimp only at hSw); go_simp) <;> (try (with_reducible rfl))
    try simp only [Act.put, Array.getInternal_eq_getElem, List.getElem_toArray, List.getElem_cons_zero, List.getElem_cons_succ, List.setIfInBounds_toArray, List.set_cons_zero, List.set_cons_succ]
    refine wpAnyH_take (i := 8) (v := ?_) rfl (by kernel_rfl) (by kernel_rfl) (by kernel_rfl) (fun _ _ _ h => h) (Or.inl ⟨by kernel_rfl, ?_⟩) (by assumption) ?_
    rotate_left
    · (intro w hSw; (try dsimp only at hSw); go_simp) <;> (try (with_reducible rfl))
    try simp only [Act.put, Array.getInternal_eq_getElem, List.getElem_toArray, List.getElem_cons_zero, List.getElem_cons_succ, List.setIfInBounds_toArray, List.set_cons_zero, List.set_cons_succ]
    refine wpAnyH_take (i := 9) (v := ?_) rfl (by kernel_rfl) (by kernel_rfl) (by kernel_rfl) (fun _ _ _ h => h) (Or.inl ⟨by kernel_rfl, ?_⟩) (by assumption) ?_
    rotate_left
    · (intro w hSw; (try dsimp only at hSw); go_simp) <;> (try (with_reducible rfl))
    try simp only [Act.put, Array.getInternal_eq_getElem, List.getElem_toArray, List.getElem_cons_zero, List.getElem_cons_succ, List.setIfInBounds_toArray, List.set_cons_zero, List.set_cons_succ]
    refine wpAnyH_ready (rs := [10]) (by kernel_rfl) (by simp) ?_
    refine AllReadyH.cons rfl (fun K hK => ?_) AllReadyH.nil
    (rw [if_pos (by kernel_rfl)]; simp only [Array.getInternal_eq_getElem, List.getElem_toArray, List.getElem_cons_zero, List.getElem_cons_succ]; refine wp_store_mid 29 _ _ rfl w2.heap.size 0 CX.toArray rfl rfl HTQ.out HXZ.out HXO.out ?_; obtain ⟨w5, hw5⟩ : ∃ w5, w5 = wb.setCells w2.heap.size 0 CX := ⟨_, rfl⟩; have HW5 := Lib.hid hw5; simp only [List.toList_toArray]; rw [← HW5.out]; clear hw5)
    refine hK.out _ _ trivial (fun hHeld => ?_)
    clear hK K
    try simp only [Act.put, Array.getInternal_eq_getElem, List.getElem_toArray, List.getElem_cons_zero, List.getElem_cons_succ, List.setIfInBounds_toArray, List.set_cons_zero, List.set_cons_succ]
    refine wpAnyH_take (i := 11) (v := ?_) rfl (by kernel_rfl) (by kernel_rfl) (by kernel_rfl) (fun _ _ _ h => h) (Or.inl ⟨by kernel_rfl, ?_⟩) (by assumption) ?_
    rotate_left
    · (intro w hSw; (try dsimp only at hSw); go_simp) <;> (try (with_reducible rfl))
    try simp only [Act.put, Array.getInternal_eq_getElem, List.getElem_toArray, List.getElem_cons_zero, List.getElem_cons_succ, List.setIfInBounds_toArray, List.set_cons_zero, List.set_cons_succ]
    refine wpAnyH_done ?_ ?_ _
    · kernel_rfl
    --@T
    have k5 := HKQ.out
    rw [← HW5.out] at k5
    have hb5 := HBQ.out
    rw [← HW5.out] at hb5
    have g5 : Blk w5 w.heap.size 29 zhd := Blk.keeps (Blk.keeps HB13.out KB.out (fun z => z)) k5 (by have := HS3.out.1; omega)
    have kk5 : ∀ S, Keeps S w w5 := keeps_own (fun S => (KK3.out S).trans (KB.out.mono (fun _ _ z => z.elim))) k5 (by have := HS3.out.1; omega)
    obtain ⟨tr, br, kr⟩ := p_store g5 (cs := zhd) rfl
    have HTR := Lib.hid tr
    have HBR := Lib.hid br
    have HKR := Lib.hid (keeps_own kk5 kr (Nat.le_refl _))
    clear k5 hb5 g5 kk5 tr br kr
    go_wp2_with (first
      | (refine p_build rfl 29 _ rfl _ rfl _ HZB.out ?_)
      | (refine' wpList_store_mid rfl 29 _ _ rfl w.heap.size 0 (zhd).toArray ?hx rfl ?ht HZI.out HZO.out ?_; (case hx => rfl); (case ht => exact HTR.out)))
    try rw [Exit.noGoto_ret]
    refine bodyPost_ret (ret_cell2 (p := 2) (u := 3) (v := 4) (ty := 29) (by kernel_rfl) _ _ _ w.heap.size _ _ _ (by rfl) HBR.out Try.underlying29 rfl HZI.out) rfl ?_
    exact ⟨nul, rfl, By.nil_ HKR.out⟩

  · (rw [if_pos (by kernel_rfl)]; simp only [Array.getInternal_eq_getElem, List.getElem_toArray, List.getElem_cons_zero, List.getElem_cons_succ]; refine wp_load_mid 29 _ rfl w2.heap.size 0 rfl C1 _ (HC3.out _ ((Keeps.refl _ w3).drew)) Try.underlying29 rfl HFZ.out ?_)
    refine hK.out _ _ trivial (fun hHeld => ?_)
    clear hK K
    try simp only [Act.put, Array.getInternal_eq_getElem, List.getElem_toArray, List.getElem_cons_zero, List.getElem_cons_succ, List.setIfInBounds_toArray, List.set_cons_zero, List.set_cons_succ]
    refine wpAnyH_ready (rs := [0, 3]) (by kernel_rfl) (by simp) ?_
    refine AllReadyH.cons rfl (fun K hK => ?_) (AllReadyH.cons rfl (fun K hK => ?_) AllReadyH.nil)
    · (rw [if_pos (by kernel_rfl)]; simp only [Array.getInternal_eq_getElem, List.getElem_toArray, List.getElem_cons_zero, List.getElem_cons_succ]; refine wp_load_mid 29 _ rfl w2.heap.size 0 rfl C1 _ (HC3.out _ ((Keeps.refl _ w3).drew)) Try.underlying29 rfl HFZ.out ?_)
      refine hK.out _ _ trivial (fun hHeld => ?_)
      clear hK K
      try simp only [Act.put, Array.getInternal_eq_getElem, List.getElem_toArray, List.getElem_cons_zero, List.getElem_cons_succ, List.setIfInBounds_toArray, List.set_cons_zero, List.set_cons_succ]
      refine wpAnyH_ready (rs := [3]) (by kernel_rfl) (by simp) ?_
      refine AllReadyH.cons rfl (fun K hK => ?_) AllReadyH.nil
      (rw [if_pos (by kernel_rfl)]; go_simp; go_at_call 40; refine ((HFS _).out).mono ?_; rintro e wa ⟨rfl, ka⟩; have KA := Lib.hid (((Keeps.refl (fun _ => False) w3).drew).trans (ka _)); clear ka)
      refine hK.out _ _ trivial (fun hHeld => ?_)
      clear hK K
      try simp only [Act.put, Array.getInternal_eq_getElem, List.getElem_toArray, List.getElem_cons_zero, List.getElem_cons_succ, List.setIfInBounds_toArray, List.set_cons_zero, List.set_cons_succ]
      refine wpAnyH_take (i := 5) (v := ?_) rfl (by kernel_rfl) (by kernel_rfl) (by kernel_rfl) (fun _ _ _ h => h) (Or.inl ⟨by kernel_rfl, ?_⟩) (by assumption) ?_
      rotate_left
      · (intro w hSw; (try dsimp only at hSw); go_simp) <;> (try (with_reducible rfl))
      try simp only [Act.put, Array.getInternal_eq_getElem, List.getElem_toArray, List.getElem_cons_zero, List.getElem_cons_succ, List.setIfInBounds_toArray, List.set_cons_zero, List.set_cons_succ]
      refine wpAnyH_ready (rs := [6]) (by kernel_rfl) (by simp) ?_
      refine AllReadyH.cons rfl (fun K hK => ?_) AllReadyH.nil
      (rw [if_pos (by kernel_rfl)]; go_simp; go_at_call 52; refine (HRR.out _ ((KW3.out _).trans KA.out)).mono ?_; rintro e wb ⟨v, rfl, yb⟩; have YB := Lib.hid yb; have KB := Lib.hid (KA.out.trans (yb.keep _)); clear yb; obtain ⟨tq, bq, kq⟩ := p_store (cs := hcs X.1 v) (Blk.keeps HB3.out KB.out (fun z => z)) (by rw [hcs_len HXW.out, ← hC1, hcs_len HWF.out]); have HTQ := Lib.hid tq; have HBQ := Lib.hid bq; have HKQ := Lib.hid kq; have HXZ := Lib.hid (hd_sz HXW.out v); have HXO : Hid (((hcs X.1 v).toArray.all fun x => x.oneCell') = true) := Lib.hid (by obtain ⟨A9, c9, rfl, _⟩ := YB.out.rd; exact all_oneCell_toArray (hcs_one rfl)); clear tq bq kq; generalize hCX : hcs X.1 v = CX at *; have HCX := Lib.hid hCX; clear hCX)
      refine hK.out _ _ trivial (fun hHeld => ?_)
      clear hK K
      try simp only [Act.put, Array.getInternal_eq_getElem, List.getElem_toArray, List.getElem_cons_zero, List.getElem_cons_succ, List.setIfInBounds_toArray, List.set_cons_zero, List.set_cons_succ]
      refine wpAnyH_take (i := 7) (v := ?_) rfl (by kernel_rfl) (by kernel_rfl) (by kernel_rfl) (fun _ _ _ h => h) (Or.inl ⟨by kernel_rfl, ?_⟩) (by assumption) ?_
      rotate_left
      · (intro w hSw; (try dsimp only at hSw); go_simp) <;> (try (with_reducible rfl))
      try simp only [Act.put, Array.getInternal_eq_getElem, List.getElem_toArray, List.getElem_cons_zero, List.getElem_cons_succ, List.setIfInBounds_toArray, List.set_cons_zero, List.set_cons_succ]
      refine wpAnyH_take (i := 8) (v := ?_) rfl (by kernel_rfl) (by kernel_rfl) (by kernel_rfl) (fun _ _ _ h => h) (Or.inl ⟨by kernel_rfl, ?_⟩) (by assumption) ?_
      rotate_left
      · (intro w hSw; (try dsimp only at hSw); go_simp) <;> (try (with_reducible rfl))
      try simp only [Act.put, Array.getInternal_eq_getElem, List.getElem_toArray, List.getElem_cons_zero, List.getElem_cons_succ, List.setIfInBounds_toArray, List.set_cons_zero, List.set_cons_succ]
      refine wpAnyH_take (i := 9) (v := ?_) rfl (by kernel_rfl) (by kernel_rfl) (by kernel_rfl) (fun _ _ _ h => h) (Or.inl ⟨by kernel_rfl, ?_⟩) (by assumption) ?_
      rotate_left
      · (intro w hSw; (try dsimp only at hSw); go_simp) <;> (try (with_reducible rfl))
      try simp only [Act.put, Array.getInternal_eq_getElem, List.getElem_toArray, List.getElem_cons_zero, List.getElem_cons_succ, List.setIfInBounds_toArray, List.set_cons_zero, List.set_cons_succ]
      refine wpAnyH_ready (rs := [10]) (by kernel_rfl) (by simp) ?_
      refine AllReadyH.cons rfl (fun K hK => ?_) AllReadyH.nil
      (rw [if_pos (by kernel_rfl)]; simp only [Array.getInternal_eq_getElem, List.getElem_toArray, List.getElem_cons_zero, List.getElem_cons_succ]; refine wp_store_mid 29 _ _ rfl w2.heap.size 0 CX.toArray rfl rfl HTQ.out HXZ.out HXO.out ?_; obtain ⟨w5, hw5⟩ : ∃ w5, w5 = wb.setCells w2.heap.size 0 CX := ⟨_, rfl⟩; have HW5 := Lib.hid hw5; simp only [List.toList_toArray]; rw [← HW5.out]; clear hw5)
      refine hK.out _ _ trivial (fun hHeld => ?_)
      clear hK K
      try simp only [Act.put, Array.getInternal_eq_getElem, List.getElem_toArray, List.getElem_cons_zero, List.getElem_cons_succ, List.setIfInBounds_toArray, List.set_cons_zero, List.set_cons_succ]
      refine wpAnyH_take (i := 11) (v := ?_) rfl (by kernel_rfl) (by kernel_rfl) (by kernel_rfl) (fun _ _ _ h => h) (Or.inl ⟨by kernel_rfl, ?_⟩) (by assumption) ?_
      rotate_left
      · (intro w hSw; (try dsimp only at hSw); go_simp) <;> (try (with_reducible rfl))
      try simp only [Act.put, Array.getInternal_eq_getElem, List.getElem_toArray, List.getElem_cons_zero, List.getElem_cons_succ, List.setIfInBounds_toArray, List.set_cons_zero, List.set_cons_succ]
      refine wpAnyH_done ?_ ?_ _
      · kernel_rfl
      --@T
      have k5 := HKQ.out
      rw [← HW5.out] at k5
      have hb5 := HBQ.out
      rw [← HW5.out] at hb5
      have g5 : Blk w5 w.heap.size 29 zhd := Blk.keeps (Blk.keeps HB13.out KB.out (fun z => z)) k5 (by have := HS3.out.1; omega)
      have kk5 : ∀ S, Keeps S w w5 := keeps_own (fun S => (KK3.out S).trans (KB.out.mono (fun _ _ z => z.elim))) k5 (by have := HS3.out.1; omega)
      obtain ⟨tr, br, kr⟩ := p_store g5 (cs := zhd) rfl
      have HTR := Lib.hid tr
      have HBR := Lib.hid br
      have HKR := Lib.hid (keeps_own kk5 kr (Nat.le_refl _))
      clear k5 hb5 g5 kk5 tr br kr
      go_wp2_with (first
        | (refine p_build rfl 29 _ rfl _ rfl _ HZB.out ?_)
        | (refine' wpList_store_mid rfl 29 _ _ rfl w.heap.size 0 (zhd).toArray ?hx rfl ?ht HZI.out HZO.out ?_; (case hx => rfl); (case ht => exact HTR.out)))
      try rw [Exit.noGoto_ret]
      refine bodyPost_ret (ret_cell2 (p := 2) (u := 3) (v := 4) (ty := 29) (by kernel_rfl) _ _ _ w.heap.size _ _ _ (by rfl) HBR.out Try.underlying29 rfl HZI.out) rfl ?_
      exact ⟨nul, rfl, By.nil_ HKR.out⟩

    · (rw [if_pos (by kernel_rfl)]; go_simp; go_at_call 40; refine ((HFS _).out).mono ?_; rintro e wa ⟨rfl, ka⟩; have KA := Lib.hid (((Keeps.refl (fun _ => False) w3).drew).trans (ka _)); clear ka)
      refine hK.out _ _ trivial (fun hHeld => ?_)
      clear hK K
      try simp only [Act.put, Array.getInternal_eq_getElem, List.getElem_toArray, List.getElem_cons_zero, List.getElem_cons_succ, List.setIfInBounds_toArray, List.set_cons_zero, List.set_cons_succ]
      refine wpAnyH_take (i := 5) (v := ?_) rfl (by kernel_rfl) (by kernel_rfl) (by kernel_rfl) (fun _ _ _ h => h) (Or.inl ⟨by kernel_rfl, ?_⟩) (by assumption) ?_
      rotate_left
      · (intro w hSw; (try dsimp only at hSw); go_simp) <;> (try (with_reducible rfl))
      try simp only [Act.put, Array.getInternal_eq_getElem, List.getElem_toArray, List.getElem_cons_zero, List.getElem_cons_succ, List.setIfInBounds_toArray, List.set_cons_zero, List.set_cons_succ]
      refine wpAnyH_ready (rs := [0]) (by kernel_rfl) (by simp) ?_
      refine AllReadyH.cons rfl (fun K hK => ?_) AllReadyH.nil
      (rw [if_pos (by kernel_rfl)]; simp only [Array.getInternal_eq_getElem, List.getElem_toArray, List.getElem_cons_zero, List.getElem_cons_succ]; refine wp_load_mid 29 _ rfl w2.heap.size 0 rfl C1 _ (HC3.out _ KA.out) Try.underlying29 rfl HFZ.out ?_)
      refine hK.out _ _ trivial (fun hHeld => ?_)
      clear hK K
      try simp only [Act.put, Array.getInternal_eq_getElem, List.getElem_toArray, List.getElem_cons_zero, List.getElem_cons_succ, List.setIfInBounds_toArray, List.set_cons_zero, List.set_cons_succ]
      refine wpAnyH_ready (rs := [6]) (by kernel_rfl) (by simp) ?_
      refine AllReadyH.cons rfl (fun K hK => ?_) AllReadyH.nil
      (rw [if_pos (by kernel_rfl)]; go_simp; go_at_call 52; refine (HRR.out _ ((KW3.out _).trans KA.out)).mono ?_; rintro e wb ⟨v, rfl, yb⟩; have YB := Lib.hid yb; have KB := Lib.hid (KA.out.trans (yb.keep _)); clear yb; obtain ⟨tq, bq, kq⟩ := p_store (cs := hcs X.1 v) (Blk.keeps HB3.out KB.out (fun z => z)) (by rw [hcs_len HXW.out, ← hC1, hcs_len HWF.out]); have HTQ := Lib.hid tq; have HBQ := Lib.hid bq; have HKQ := Lib.hid kq; have HXZ := Lib.hid (hd_sz HXW.out v); have HXO : Hid (((hcs X.1 v).toArray.all fun x => x.oneCell') = true) := Lib.hid (by obtain ⟨A9, c9, rfl, _⟩ := YB.out.rd; exact all_oneCell_toArray (hcs_one rfl)); clear tq bq kq; generalize hCX : hcs X.1 v = CX at *; have HCX := Lib.hid hCX; clear hCX)
      refine hK.out _ _ trivial (fun hHeld => ?_)
      clear hK K
      try simp only [Act.put, Array.getInternal_eq_getElem, List.getElem_toArray, List.getElem_cons_zero, List.getElem_cons_succ, List.setIfInBounds_toArray, List.set_cons_zero, List.set_cons_succ]
      refine wpAnyH_take (i := 7) (v := ?_) rfl (by kernel_rfl) (by kernel_rfl) (by kernel_rfl) (fun _ _ _ h => h) (Or.inl ⟨by kernel_rfl, ?_⟩) (by assumption) ?_
      rotate_left
      · (intro w hSw; (try dsimp only at hSw); go_simp) <;> (try (with_reducible rfl))
      try simp only [Act.put, Array.getInternal_eq_getElem, List.getElem_toArray, List.getElem_cons_zero, List.getElem_cons_succ, List.setIfInBounds_toArray, List.set_cons_zero, List.set_cons_succ]
      refine wpAnyH_take (i := 8) (v := ?_) rfl (by kernel_rfl) (by kernel_rfl) (by kernel_rfl) (fun _ _ _ h => h) (Or.inl ⟨by kernel_rfl, ?_⟩) (by assumption) ?_
      rotate_left
      · (intro w hSw; (try dsimp only at hSw); go_simp) <;> (try (with_reducible rfl))
      try simp only [Act.put, Array.getInternal_eq_getElem, List.getElem_toArray, List.getElem_cons_zero, List.getElem_cons_succ, List.setIfInBounds_toArray, List.set_cons_zero, List.set_cons_succ]
      refine wpAnyH_take (i := 9) (v := ?_) rfl (by kernel_rfl) (by kernel_rfl) (by kernel_rfl) (fun _ _ _ h => h) (Or.inl ⟨by kernel_rfl, ?_⟩) (by assumption) ?_
      rotate_left
      · (intro w hSw; (try dsimp only at hSw); go_simp) <;> (try (with_reducible rfl))
      try simp only [Act.put, Array.getInternal_eq_getElem, List.getElem_toArray, List.getElem_cons_zero, List.getElem_cons_succ, List.setIfInBounds_toArray, List.set_cons_zero, List.set_cons_succ]
      refine wpAnyH_ready (rs := [10]) (by kernel_rfl) (by simp) ?_
      refine AllReadyH.cons rfl (fun K hK => ?_) AllReadyH.nil
      (rw [if_pos (by kernel_rfl)]; simp only [Array.getInternal_eq_getElem, List.getElem_toArray, List.getElem_cons_zero, List.getElem_cons_succ]; refine wp_store_mid 29 _ _ rfl w2.heap.size 0 CX.toArray rfl rfl HTQ.out HXZ.out HXO.out ?_; obtain ⟨w5, hw5⟩ : ∃ w5, w5 = wb.setCells w2.heap.size 0 CX := ⟨_, rfl⟩; have HW5 := Lib.hid hw5; simp only [List.toList_toArray]; rw [← HW5.out]; clear hw5)
      refine hK.out _ _ trivial (fun hHeld => ?_)
      clear hK K
      try simp only [Act.put, Array.getInternal_eq_getElem, List.getElem_toArray, List.getElem_cons_zero, List.getElem_cons_succ, List.setIfInBounds_toArray, List.set_cons_zero, List.set_cons_succ]
      refine wpAnyH_take (i := 11) (v := ?_) rfl (by kernel_rfl) (by kernel_rfl) (by kernel_rfl) (fun _ _ _ h => h) (Or.inl ⟨by kernel_rfl, ?_⟩) (by assumption) ?_
      rotate_left
      · (intro w hSw; (try dsimp only at hSw); go_simp) <;> (try (with_reducible rfl))
      try simp only [Act.put, Array.getInternal_eq_getElem, List.getElem_toArray, List.getElem_cons_zero, List.getElem_cons_succ, List.setIfInBounds_toArray, List.set_cons_zero, List.set_cons_succ]
      refine wpAnyH_done ?_ ?_ _
      · kernel_rfl
      --@T
      have k5 := HKQ.out
      rw [← HW5.out] at k5
      have hb5 := HBQ.out
      rw [← HW5.out] at hb5
      have g5 : Blk w5 w.heap.size 29 zhd := Blk.keeps (Blk.keeps HB13.out KB.out (fun z => z)) k5 (by have := HS3.out.1; omega)
      have kk5 : ∀ S, Keeps S w w5 := keeps_own (fun S => (KK3.out S).trans (KB.out.mono (fun _ _ z => z.elim))) k5 (by have := HS3.out.1; omega)
      obtain ⟨tr, br, kr⟩ := p_store g5 (cs := zhd) rfl
      have HTR := Lib.hid tr
      have HBR := Lib.hid br
      have HKR := Lib.hid (keeps_own kk5 kr (Nat.le_refl _))
      clear k5 hb5 g5 kk5 tr br kr
      go_wp2_with (first
        | (refine p_build rfl 29 _ rfl _ rfl _ HZB.out ?_)
        | (refine' wpList_store_mid rfl 29 _ _ rfl w.heap.size 0 (zhd).toArray ?hx rfl ?ht HZI.out HZO.out ?_; (case hx => rfl); (case ht => exact HTR.out)))
      try rw [Exit.noGoto_ret]
      refine bodyPost_ret (ret_cell2 (p := 2) (u := 3) (v := 4) (ty := 29) (by kernel_rfl) _ _ _ w.heap.size _ _ _ (by rfl) HBR.out Try.underlying29 rfl HZI.out) rfl ?_
      exact ⟨nul, rfl, By.nil_ HKR.out⟩


set_option maxRecDepth 100000 in
set_option maxHeartbeats 2000000 in
theorem read_ok (A : Option Addr) (n c B : Nat) (l : List Nat) (hl : l.length = n) (hn : n ≤ 140737488355328) (hc : n ≤ c) (hc9 : c ≤ 9223372036854775807) (hs : Small l) (hr : Rd w B A (by_ l)) (hB : B ≤ w.heap.size) (he : (rdF l).2.2 = 0) (hx : (rdR (rdF l).1 (resto l)).2 = 0) :
    Calls Try.prog 26 #[.slice A n c] w fun e w' => RA w w' e ((rdR (rdF l).1 (resto l)).1, (rdF l).2.1, 0) := by
  unfold RA
  dsimp only
  obtain ⟨w1, hw1, k1, b1, s1⟩ := box1 w zhd 29
  dsimp only [zhd] at hw1
  have hr1 := rd_old hr (k1 (fun _ => False))
  have HF : Hid (Calls Try.prog 51 #[.slice A n c] w1 fun e w' => RH w1 w' e (rdF l)) := Lib.hid (rfront_ w1 A n c B l hl (by omega) hc hc9 hs hr1 (by omega))
  have hwf := rdF_wf hs
  have HZI := Lib.hid zhd_info
  have HZB := Lib.hid zhd_built
  have HZO := Lib.hid (all_oneCell_toArray zhd_one)
  have HFZ : Hid ((Try.prog.info? 29).map (·.size) = some (hcs (rdF l).1 nul).length) := Lib.hid (hd_sz hwf nul)
  have HFO := Lib.hid (all_oneCell_toArray (hcs_one (h := (rdF l).1) (v := nul) rfl))
  have HWF := Lib.hid hwf
  have HW := Lib.hid hw1
  have K1 := Lib.hid k1
  have HB1 := Lib.hid b1
  have HR1 := Lib.hid hr1
  have HLS := Lib.hid (And.intro hl (And.intro hs hB))
  have HS1 := Lib.hid s1
  obtain ⟨h0, hf1, hf2, hf3⟩ := rdF_ok he
  obtain ⟨g, o, rfl, _, _⟩ := hr.byte (getq (bs := l) (k := 0) h0)
  have HF0 := Lib.hid (And.intro hf1 (And.intro hf2 hf3))
  have HHX := Lib.hid hx
  unfold RH at HF
  rw [he] at HF
  obtain ⟨f0, hf0⟩ : ∃ f0, f0 = fsz (rdF l).1 := ⟨_, rfl⟩
  obtain ⟨s9, hs9⟩ : ∃ s9, s9 = (rdF l).2.1 := ⟨_, rfl⟩
  have hrs : resto l = (l.drop f0).take (s9 - f0) := by rw [hf0, hs9]; rfl
  rw [← hf0, ← hs9] at hf1
  rw [← hs9] at hf2 hf3
  have hfs : f0 ≤ 40 := by rw [hf0]; unfold fsz; split <;> omega
  obtain ⟨o2, ho2⟩ := cutA_form g o c f0
  obtain ⟨m, hm⟩ : ∃ m, m = s9 - f0 := ⟨_, rfl⟩
  obtain ⟨c2, hc2⟩ : ∃ c2, c2 = c - f0 := ⟨_, rfl⟩
  have q1 : ∀ u, (Instr.slice 27 (.slice (some ⟨g, o, none⟩) n c) (some (.int .i64 (f0 : Int))) (some (.int .i64 (s9 : Int))) none).run Try.prog u = .ok (.slice (some ⟨g, o2, none⟩) m c2) u := fun u => by rw [hm, hc2, ← ho2]; exact cut_lh (some ⟨g, o, none⟩) n c f0 s9 hf1 (by omega) u
  have hrl : (resto l).length = m := by rw [hrs, List.length_take, List.length_drop]; omega
  have hrd : ∀ u, Keeps (fun _ => False) w1 u → Rd u B (some ⟨g, o2, none⟩) (by_ (resto l)) := fun u hu => by
    have := rd_take (rd_cut (rd_old hr1 hu) (c := c) f0 (by omega)) (s9 - f0)
    rw [ho2, ← hrs] at this
    exact this
  have hrs2 : Small (resto l) := by rw [hrs]; exact (hs.drop _).take _
  have HFS : ∀ u, Hid (Calls Try.prog 40 #[hvv (rdF l).1 nul] u fun e w' => e = .returned (.int .i64 (f0 : Nat)) ∧ ∀ S, Keeps S u w') := fun u => Lib.hid (by rw [hf0]; exact pfsz_ u (rdF l).1 nul hwf)
  have hm9 : m ≤ 140737480000000 := by omega
  have hmc : m ≤ c2 := by omega
  have hc29 : c2 ≤ 9223372036854775807 := by omega
  have HRR : Hid (∀ u, Keeps (fun _ => False) w1 u → Calls Try.prog 52 #[hvv (rdF l).1 nul, .slice (some ⟨g, o2, none⟩) m c2] u fun e w' => RK u w' e (rdR (rdF l).1 (resto l))) := Lib.hid (fun u hu => rrest_ u (rdF l).1 hwf g o2 m c2 B (resto l) hrl hm9 hmc hc29 hrs2 (hrd u hu) (by have := hu.size; omega))
  have hxw : (rdR (rdF l).1 (resto l)).1.Wf := rdR_wf hwf hrs2
  have HXW := Lib.hid hxw
  obtain ⟨X, hX⟩ : ∃ X, X = rdR (rdF l).1 (resto l) := ⟨_, rfl⟩
  rw [← hX] at HRR hx HXW HHX
  try rw [← hX]
  unfold RK at HRR
  have HS9 := Lib.hid hs9
  try rw [← hs9]
  unfold hvv at HFS HRR
  have d2 : (X.2 != 0) = false := by rw [hx]; rfl
  clear hx
  clear ho2 hrl hrd hrs2 hxw hX h0 hf1 hf2 hf3 hm hc2 hf0 hrs hm9 hmc hc29
  try unfold RH at HF
  unfold hvv at HF
  clear hw1 k1 b1 s1 hwf hr1 hr hs hl hB
  rw [← hs9] at HF
  clear hs9
  generalize hC1 : hcs (rdF l).1 nul = C1 at HF HFZ HFO HFS HRR
  go_enter Try.func26, Try.ntmps26
  go_wp2_with fail
  try rw [← HW.out]
  refine HF.out.mono ?_
  rintro e w2 ⟨rfl, k2⟩
  obtain ⟨wz, hwz, kz, bz, sz⟩ := box1 w2 zhd 29
  dsimp only [zhd] at hwz
  have HWZ := Lib.hid hwz
  obtain ⟨t3, b3, k3⟩ := p_store bz (cs := C1) (by rw [← hC1, hcs_len HWF.out]; rfl)
  obtain ⟨w3, hw3⟩ : ∃ w3, w3 = wz.setCells w2.heap.size 0 C1 := ⟨_, rfl⟩
  rw [← hw3] at b3 k3
  have HT3 := Lib.hid t3
  have HW3 := Lib.hid hw3
  have kw3 : ∀ S, Keeps S w1 w3 := keeps_own (fun S => (k2 S).trans (kz S)) k3 (k2 (fun _ => False)).size
  have b13 : Blk w3 w.heap.size 29 zhd := Blk.keeps HB1.out (kw3 (fun _ => False)) (fun z => z)
  have s3 : w2.heap.size + 1 ≤ w3.heap.size := by have := k3.size; omega
  have s2 : w.heap.size + 1 ≤ w2.heap.size := by have := (k2 (fun _ => False)).size; have := HS1.out; omega
  have kk3 : ∀ S, Keeps S w w3 := fun S => (K1.out S).trans (kw3 S)
  have HC3 : Hid (∀ wq, Keeps (fun _ => False) w3 wq → wq.rangeAt w2.heap.size 0 C1) := Lib.hid (fun wq kq => Blk.range (Blk.keeps b3 kq (fun z => z)))
  have KW3 := Lib.hid kw3
  have KK3 := Lib.hid kk3
  have HB3 := Lib.hid b3
  have HB13 := Lib.hid b13
  have HS3 := Lib.hid (And.intro s2 s3)
  clear hwz kz bz sz t3 b3 k3 hw3 kw3 b13 s3 s2 kk3 k2
  go_wp2_with ((with_reducible show wpList _ _ _ (⟨none, .store _ (.tmp 5) _, _, _, _, _⟩ :: _) _ _); (try with_reducible rw [← HWZ.out]); ((with_reducible show wpList _ _ _ (⟨none, .store _ (.tmp 5) _, _, _, _, _⟩ :: _) _ _); refine' wpList_store_mid rfl 29 _ _ rfl w2.heap.size 0 (C1).toArray ?hx rfl ?ht HFZ.out HFO.out ?_; (case hx => rfl); (case ht => exact HT3.out)); rw [← HW3.out])
  --@3
  refine wp_region_held_drew (S := fun _ => True) (by kernel_rfl) trivial (fun hHeld => ?_)
  refine wpAnyH_take (i := 1) (v := ?_) rfl (by kernel_rfl) (by kernel_rfl) (by kernel_rfl) (fun _ _ _ h => h) (Or.inl ⟨by kernel_rfl, ?_⟩) (by assumption) ?_
  rotate_left
  · (intro w hSw; (try dsimp only at hSw); go_simp) <;> (try (with_reducible rfl))
  try simp only [Act.put, Array.getInternal_eq_getElem, List.getElem_toArray, List.getElem_cons_zero, List.getElem_cons_succ, List.setIfInBounds_toArray, List.set_cons_zero, List.set_cons_succ]
  refine wpAnyH_take (i := 4) (v := ?_) rfl (by kernel_rfl) (by kernel_rfl) (by kernel_rfl) (fun _ _ _ h => h) (Or.inl ⟨by kernel_rfl, ?_⟩) (by assumption) ?_
  rotate_left
  · (intro w hSw; (try dsimp only at hSw); go_simp) <;> (try (with_reducible rfl))
  try simp only [Act.put, Array.getInternal_eq_getElem, List.getElem_toArray, List.getElem_cons_zero, List.getElem_cons_succ, List.setIfInBounds_toArray, List.set_cons_zero, List.set_cons_succ]
  refine wpAnyH_ready (rs := [0, 2]) (by kernel_rfl) (by simp) ?_
  refine AllReadyH.cons rfl (fun K hK => ?_) (AllReadyH.cons rfl (fun K hK => ?_) AllReadyH.nil)
  · (rw [if_pos (by kernel_rfl)]; simp only [Array.getInternal_eq_getElem, List.getElem_toArray, List.getElem_cons_zero, List.getElem_cons_succ]; refine wp_load_mid 29 _ rfl w2.heap.size 0 rfl C1 _ (HC3.out _ ((Keeps.refl _ w3).drew)) Try.underlying29 rfl HFZ.out ?_)
    refine hK.out _ _ trivial (fun hHeld => ?_)
    clear hK K
    try simp only [Act.put, Array.getInternal_eq_getElem, List.getElem_toArray, List.getElem_cons_zero, List.getElem_cons_succ, List.setIfInBounds_toArray, List.set_cons_zero, List.set_cons_succ]
    refine wpAnyH_ready (rs := [2]) (by kernel_rfl) (by simp) ?_
    refine AllReadyH.cons rfl (fun K hK => ?_) AllReadyH.nil
    (rw [if_pos (by kernel_rfl)]; simp only [Array.getInternal_eq_getElem, List.getElem_toArray, List.getElem_cons_zero, List.getElem_cons_succ]; refine wp_load_mid 29 _ rfl w2.heap.size 0 rfl C1 _ (HC3.out _ ((Keeps.refl _ w3).drew)) Try.underlying29 rfl HFZ.out ?_)
    refine hK.out _ _ trivial (fun hHeld => ?_)
    clear hK K
    try simp only [Act.put, Array.getInternal_eq_getElem, List.getElem_toArray, List.getElem_cons_zero, List.getElem_cons_succ, List.setIfInBounds_toArray, List.set_cons_zero, List.set_cons_succ]
    refine wpAnyH_ready (rs := [3]) (by kernel_rfl) (by simp) ?_
    refine AllReadyH.cons rfl (fun K hK => ?_) AllReadyH.nil
    (rw [if_pos (by kernel_rfl)]; go_simp; go_at_call 40; refine ((HFS _).out).mono ?_; rintro e wa ⟨rfl, ka⟩; have KA := Lib.hid (((Keeps.refl (fun _ => False) w3).drew).trans (ka _)); clear ka)
    refine hK.out _ _ trivial (fun hHeld => ?_)
    clear hK K
    try simp only [Act.put, Array.getInternal_eq_getElem, List.getElem_toArray, List.getElem_cons_zero, List.getElem_cons_succ, List.setIfInBounds_toArray, List.set_cons_zero, List.set_cons_succ]
    refine wpAnyH_take (i := 5) (v := ?_) rfl (by kernel_rfl) (by kernel_rfl) (by kernel_rfl) (fun _ _ _ h => h) (Or.inl ⟨by kernel_rfl, ?_⟩) (by assumption) ?_
    rotate_left
    · (intro w hSw; (try dsimp only at hSw); go_simp) <;> (try (with_reducible rfl))
    try simp only [Act.put, Array.getInternal_eq_getElem, List.getElem_toArray, List.getElem_cons_zero, List.getElem_cons_succ, List.setIfInBounds_toArray, List.set_cons_zero, List.set_cons_succ]
    refine wpAnyH_ready (rs := [6]) (by kernel_rfl) (by simp) ?_
    refine AllReadyH.cons rfl (fun K hK => ?_) AllReadyH.nil
    (rw [if_pos (by kernel_rfl)]; go_simp; go_at_call 52; refine (HRR.out _ ((KW3.out _).trans KA.out)).mono ?_; rintro e wb ⟨v, rfl, yb⟩; have YB := Lib.hid yb; have KB := Lib.hid (KA.out.trans (yb.keep _)); clear yb; obtain ⟨tq, bq, kq⟩ := p_store (cs := hcs X.1 v) (Blk.keeps HB3.out KB.out (fun z => z)) (by rw [hcs_len HXW.out, ← hC1, hcs_len HWF.out]); have HTQ := Lib.hid tq; have HBQ := Lib.hid bq; have HKQ := Lib.hid kq; have HXZ := Lib.hid (hd_sz HXW.out v); have HXO : Hid (((hcs X.1 v).toArray.all fun x => x.oneCell') = true) := Lib.hid (by obtain ⟨A9, c9, rfl, _⟩ := YB.out.rd; exact all_oneCell_toArray (hcs_one rfl)); clear tq bq kq; generalize hCX : hcs X.1 v = CX at *; have HCX := Lib.hid hCX; clear hCX)
    refine hK.out _ _ trivial (fun hHeld => ?_)
    clear hK K
    try simp only [Act.put, Array.getInternal_eq_getElem, List.getElem_toArray, List.getElem_cons_zero, List.getElem_cons_succ, List.setIfInBounds_toArray, List.set_cons_zero, List.set_cons_succ]
    refine wpAnyH_take (i := 7) (v := ?_) rfl (by kernel_rfl) (by kernel_rfl) (by kernel_rfl) (fun _ _ _ h => h) (Or.inl ⟨by kernel_rfl, ?_⟩) (by assumption) ?_
    rotate_left
    · (intro w hSw; (try dsimp only at hSw); go_simp) <;> (try (with_reducible rfl))
    try simp only [Act.put, Array.getInternal_eq_getElem, List.getElem_toArray, List.getElem_cons_zero, List.getElem_cons_succ, List.setIfInBounds_toArray, List.set_cons_zero, List.set_cons_succ]
    refine wpAnyH_take (i := 8) (v := ?_) rfl (by kernel_rfl) (by kernel_rfl) (by kernel_rfl) (fun _ _ _ h => h) (Or.inl ⟨by kernel_rfl, ?_⟩) (by assumption) ?_
    rotate_left
    · (intro w hSw; (try dsimp only at hSw); go_simp) <;> (try (with_reducible rfl))
    try simp only [Act.put, Array.getInternal_eq_getElem, List.getElem_toArray, List.getElem_cons_zero, List.getElem_cons_succ, List.setIfInBounds_toArray, List.set_cons_zero, List.set_cons_succ]
    refine wpAnyH_take (i := 9) (v := ?_) rfl (by kernel_rfl) (by kernel_rfl) (by kernel_rfl) (fun _ _ _ h => h) (Or.inl ⟨by kernel_rfl, ?_⟩) (by assumption) ?_
    rotate_left
    · (intro w hSw; (try dsimp only at hSw); go_simp) <;> (try (with_reducible rfl))
    try simp only [Act.put, Array.getInternal_eq_getElem, List.getElem_toArray, List.getElem_cons_zero, List.getElem_cons_succ, List.setIfInBounds_toArray, List.set_cons_zero, List.set_cons_succ]
    refine wpAnyH_ready (rs := [10]) (by kernel_rfl) (by simp) ?_
    refine AllReadyH.cons rfl (fun K hK => ?_) AllReadyH.nil
    (rw [if_pos (by kernel_rfl)]; simp only [Array.getInternal_eq_getElem, List.getElem_toArray, List.getElem_cons_zero, List.getElem_cons_succ]; refine wp_store_mid 29 _ _ rfl w2.heap.size 0 CX.toArray rfl rfl HTQ.out HXZ.out HXO.out ?_; obtain ⟨w5, hw5⟩ : ∃ w5, w5 = wb.setCells w2.heap.size 0 CX := ⟨_, rfl⟩; have HW5 := Lib.hid hw5; simp only [List.toList_toArray]; rw [← HW5.out]; clear hw5)
    refine hK.out _ _ trivial (fun hHeld => ?_)
    clear hK K
    try simp only [Act.put, Array.getInternal_eq_getElem, List.getElem_toArray, List.getElem_cons_zero, List.getElem_cons_succ, List.setIfInBounds_toArray, List.set_cons_zero, List.set_cons_succ]
    refine wpAnyH_take (i := 11) (v := ?_) rfl (by kernel_rfl) (by kernel_rfl) (by kernel_rfl) (fun _ _ _ h => h) (Or.inl ⟨by kernel_rfl, ?_⟩) (by assumption) ?_
    rotate_left
    · (intro w hSw; (try dsimp only at hSw); go_simp) <;> (try (with_reducible rfl))
    try simp only [Act.put, Array.getInternal_eq_getElem, List.getElem_toArray, List.getElem_cons_zero, List.getElem_cons_succ, List.setIfInBounds_toArray, List.set_cons_zero, List.set_cons_succ]
    refine wpAnyH_done ?_ ?_ _
    · kernel_rfl
    --@T
    have k5 := HKQ.out
    rw [← HW5.out] at k5
    have hb5 := HBQ.out
    rw [← HW5.out] at hb5
    have g5 : Blk w5 w.heap.size 29 zhd := Blk.keeps (Blk.keeps HB13.out KB.out (fun z => z)) k5 (by have := HS3.out.1; omega)
    have kk5 : ∀ S, Keeps S w w5 := keeps_own (fun S => (KK3.out S).trans (KB.out.mono (fun _ _ z => z.elim))) k5 (by have := HS3.out.1; omega)
    obtain ⟨tr, br, kr⟩ := p_store g5 (cs := CX) (by rw [← HCX.out, hcs_len HXW.out]; rfl)
    have hsz := KA.out.size
    have yw : By w w5 v X.1.dat := past_ (YB.out.base (fun S => (KK3.out S).trans (KA.out.mono (fun _ _ z => z.elim)))) k5 (by have := HS3.out.1; omega) (YB.out.apart (by have := HS3.out.2; omega))
    have yr := past_ yw kr (Nat.le_refl _) (YB.out.apart (by have := HS3.out.1; have := HS3.out.2; omega))
    have HTR := Lib.hid tr
    have HBR := Lib.hid br
    have HYR := Lib.hid yr
    have HB5 := Lib.hid hb5
    clear k5 hb5 g5 kk5 tr br kr yw yr hsz
    go_wp2_with (first
      | (refine wpList_load_mid rfl 29 _ rfl w2.heap.size 0 rfl CX _ (Blk.range HB5.out) Try.underlying29 rfl HXZ.out ?_)
      | ((with_reducible show wpList _ _ _ (⟨none, .store _ (.tmp 2) _, _, _, _, _⟩ :: _) _ _); refine' wpList_store_mid rfl 29 _ _ rfl w.heap.size 0 (CX).toArray ?hx rfl ?ht HXZ.out HXO.out ?_; (case hx => rfl); (case ht => exact HTR.out)))
    try rw [Exit.noGoto_ret]
    refine bodyPost_ret (ret_cell2 (p := 2) (u := 3) (v := 4) (ty := 29) (by kernel_rfl) _ _ _ w.heap.size _ _ _ (by rfl) HBR.out Try.underlying29 rfl HXZ.out) rfl ?_
    exact ⟨v, by unfold hvv; rw [HCX.out]; rfl, HYR.out⟩
  · (rw [if_pos (by kernel_rfl)]; simp only [Array.getInternal_eq_getElem, List.getElem_toArray, List.getElem_cons_zero, List.getElem_cons_succ]; refine wp_load_mid 29 _ rfl w2.heap.size 0 rfl C1 _ (HC3.out _ ((Keeps.refl _ w3).drew)) Try.underlying29 rfl HFZ.out ?_)
    refine hK.out _ _ trivial (fun hHeld => ?_)
    clear hK K
    try simp only [Act.put, Array.getInternal_eq_getElem, List.getElem_toArray, List.getElem_cons_zero, List.getElem_cons_succ, List.setIfInBounds_toArray, List.set_cons_zero, List.set_cons_succ]
    refine wpAnyH_ready (rs := [0, 3]) (by kernel_rfl) (by simp) ?_
    refine AllReadyH.cons rfl (fun K hK => ?_) (AllReadyH.cons rfl (fun K hK => ?_) AllReadyH.nil)
    · (rw [if_pos (by kernel_rfl)]; simp only [Array.getInternal_eq_getElem, List.getElem_toArray, List.getElem_cons_zero, List.getElem_cons_succ]; refine wp_load_mid 29 _ rfl w2.heap.size 0 rfl C1 _ (HC3.out _ ((Keeps.refl _ w3).drew)) Try.underlying29 rfl HFZ.out ?_)
      refine hK.out _ _ trivial (fun hHeld => ?_)
      clear hK K
      try simp only [Act.put, Array.getInternal_eq_getElem, List.getElem_toArray, List.getElem_cons_zero, List.getElem_cons_succ, List.setIfInBounds_toArray, List.set_cons_zero, List.set_cons_succ]
      refine wpAnyH_ready (rs := [3]) (by kernel_rfl) (by simp) ?_
      refine AllReadyH.cons rfl (fun K hK => ?_) AllReadyH.nil
      (rw [if_pos (by kernel_rfl)]; go_simp; go_at_call 40; refine ((HFS _).out).mono ?_; rintro e wa ⟨rfl, ka⟩; have KA := Lib.hid (((Keeps.refl (fun _ => False) w3).drew).trans (ka _)); clear ka)
      refine hK.out _ _ trivial (fun hHeld => ?_)
      clear hK K
      try simp only [Act.put, Array.getInternal_eq_getElem, List.getElem_toArray, List.getElem_cons_zero, List.getElem_cons_succ, List.setIfInBounds_toArray, List.set_cons_zero, List.set_cons_succ]
      refine wpAnyH_take (i := 5) (v := ?_) rfl (by kernel_rfl) (by kernel_rfl) (by kernel_rfl) (fun _ _ _ h => h) (Or.inl ⟨by kernel_rfl, ?_⟩) (by assumption) ?_
      rotate_left
      · (intro w hSw; (try dsimp only at hSw); go_simp) <;> (try (with_reducible rfl))
      try simp only [Act.put, Array.getInternal_eq_getElem, List.getElem_toArray, List.getElem_cons_zero, List.getElem_cons_succ, List.setIfInBounds_toArray, List.set_cons_zero, List.set_cons_succ]
      refine wpAnyH_ready (rs := [6]) (by kernel_rfl) (by simp) ?_
      refine AllReadyH.cons rfl (fun K hK => ?_) AllReadyH.nil
      (rw [if_pos (by kernel_rfl)]; go_simp; go_at_call 52; refine (HRR.out _ ((KW3.out _).trans KA.out)).mono ?_; rintro e wb ⟨v, rfl, yb⟩; have YB := Lib.hid yb; have KB := Lib.hid (KA.out.trans (yb.keep _)); clear yb; obtain ⟨tq, bq, kq⟩ := p_store (cs := hcs X.1 v) (Blk.keeps HB3.out KB.out (fun z => z)) (by rw [hcs_len HXW.out, ← hC1, hcs_len HWF.out]); have HTQ := Lib.hid tq; have HBQ := Lib.hid bq; have HKQ := Lib.hid kq; have HXZ := Lib.hid (hd_sz HXW.out v); have HXO : Hid (((hcs X.1 v).toArray.all fun x => x.oneCell') = true) := Lib.hid (by obtain ⟨A9, c9, rfl, _⟩ := YB.out.rd; exact all_oneCell_toArray (hcs_one rfl)); clear tq bq kq; generalize hCX : hcs X.1 v = CX at *; have HCX := Lib.hid hCX; clear hCX)
      refine hK.out _ _ trivial (fun hHeld => ?_)
      clear hK K
      try simp only [Act.put, Array.getInternal_eq_getElem, List.getElem_toArray, List.getElem_cons_zero, List.getElem_cons_succ, List.setIfInBounds_toArray, List.set_cons_zero, List.set_cons_succ]
      refine wpAnyH_take (i := 7) (v := ?_) rfl (by kernel_rfl) (by kernel_rfl) (by kernel_rfl) (fun _ _ _ h => h) (Or.inl ⟨by kernel_rfl, ?_⟩) (by assumption) ?_
      rotate_left
      · (intro w hSw; (try dsimp only at hSw); go_simp) <;> (try (with_reducible rfl))
      try simp only [Act.put, Array.getInternal_eq_getElem, List.getElem_toArray, List.getElem_cons_zero, List.getElem_cons_succ, List.setIfInBounds_toArray, List.set_cons_zero, List.set_cons_succ]
      refine wpAnyH_take (i := 8) (v := ?_) rfl (by kernel_rfl) (by kernel_rfl) (by kernel_rfl) (fun _ _ _ h => h) (Or.inl ⟨by kernel_rfl, ?_⟩) (by assumption) ?_
      rotate_left
      · (intro w hSw; (try dsimp only at hSw); go_simp) <;> (try (with_reducible rfl))
      try simp only [Act.put, Array.getInternal_eq_getElem, List.getElem_toArray, List.getElem_cons_zero, List.getElem_cons_succ, List.setIfInBounds_toArray, List.set_cons_zero, List.set_cons_succ]
      refine wpAnyH_take (i := 9) (v := ?_) rfl (by kernel_rfl) (by kernel_rfl) (by kernel_rfl) (fun _ _ _ h => h) (Or.inl ⟨by kernel_rfl, ?_⟩) (by assumption) ?_
      rotate_left
      · (intro w hSw; (try dsimp only at hSw); go_simp) <;> (try (with_reducible rfl))
      try simp only [Act.put, Array.getInternal_eq_getElem, List.getElem_toArray, List.getElem_cons_zero, List.getElem_cons_succ, List.setIfInBounds_toArray, List.set_cons_zero, List.set_cons_succ]
      refine wpAnyH_ready (rs := [10]) (by kernel_rfl) (by simp) ?_
      refine AllReadyH.cons rfl (fun K hK => ?_) AllReadyH.nil
      (rw [if_pos (by kernel_rfl)]; simp only [Array.getInternal_eq_getElem, List.getElem_toArray, List.getElem_cons_zero, List.getElem_cons_succ]; refine wp_store_mid 29 _ _ rfl w2.heap.size 0 CX.toArray rfl rfl HTQ.out HXZ.out HXO.out ?_; obtain ⟨w5, hw5⟩ : ∃ w5, w5 = wb.setCells w2.heap.size 0 CX := ⟨_, rfl⟩; have HW5 := Lib.hid hw5; simp only [List.toList_toArray]; rw [← HW5.out]; clear hw5)
      refine hK.out _ _ trivial (fun hHeld => ?_)
      clear hK K
      try simp only [Act.put, Array.getInternal_eq_getElem, List.getElem_toArray, List.getElem_cons_zero, List.getElem_cons_succ, List.setIfInBounds_toArray, List.set_cons_zero, List.set_cons_succ]
      refine wpAnyH_take (i := 11) (v := ?_) rfl (by kernel_rfl) (by kernel_rfl) (by kernel_rfl) (fun _ _ _ h => h) (Or.inl ⟨by kernel_rfl, ?_⟩) (by assumption) ?_
      rotate_left
      · (intro w hSw; (try dsimp only at hSw); go_simp) <;> (try (with_reducible rfl))
      try simp only [Act.put, Array.getInternal_eq_getElem, List.getElem_toArray, List.getElem_cons_zero, List.getElem_cons_succ, List.setIfInBounds_toArray, List.set_cons_zero, List.set_cons_succ]
      refine wpAnyH_done ?_ ?_ _
      · kernel_rfl
      --@T
      have k5 := HKQ.out
      rw [← HW5.out] at k5
      have hb5 := HBQ.out
      rw [← HW5.out] at hb5
      have g5 : Blk w5 w.heap.size 29 zhd := Blk.keeps (Blk.keeps HB13.out KB.out (fun z => z)) k5 (by have := HS3.out.1; omega)
      have kk5 : ∀ S, Keeps S w w5 := keeps_own (fun S => (KK3.out S).trans (KB.out.mono (fun _ _ z => z.elim))) k5 (by have := HS3.out.1; omega)
      obtain ⟨tr, br, kr⟩ := p_store g5 (cs := CX) (by rw [← HCX.out, hcs_len HXW.out]; rfl)
      have hsz := KA.out.size
      have yw : By w w5 v X.1.dat := past_ (YB.out.base (fun S => (KK3.out S).trans (KA.out.mono (fun _ _ z => z.elim)))) k5 (by have := HS3.out.1; omega) (YB.out.apart (by have := HS3.out.2; omega))
      have yr := past_ yw kr (Nat.le_refl _) (YB.out.apart (by have := HS3.out.1; have := HS3.out.2; omega))
      have HTR := Lib.hid tr
      have HBR := Lib.hid br
      have HYR := Lib.hid yr
      have HB5 := Lib.hid hb5
      clear k5 hb5 g5 kk5 tr br kr yw yr hsz
      go_wp2_with (first
        | (refine wpList_load_mid rfl 29 _ rfl w2.heap.size 0 rfl CX _ (Blk.range HB5.out) Try.underlying29 rfl HXZ.out ?_)
        | ((with_reducible show wpList _ _ _ (⟨none, .store _ (.tmp 2) _, _, _, _, _⟩ :: _) _ _); refine' wpList_store_mid rfl 29 _ _ rfl w.heap.size 0 (CX).toArray ?hx rfl ?ht HXZ.out HXO.out ?_; (case hx => rfl); (case ht => exact HTR.out)))
      try rw [Exit.noGoto_ret]
      refine bodyPost_ret (ret_cell2 (p := 2) (u := 3) (v := 4) (ty := 29) (by kernel_rfl) _ _ _ w.heap.size _ _ _ (by rfl) HBR.out Try.underlying29 rfl HXZ.out) rfl ?_
      exact ⟨v, by unfold hvv; rw [HCX.out]; rfl, HYR.out⟩
    · (rw [if_pos (by kernel_rfl)]; go_simp; go_at_call 40; refine ((HFS _).out).mono ?_; rintro e wa ⟨rfl, ka⟩; have KA := Lib.hid (((Keeps.refl (fun _ => False) w3).drew).trans (ka _)); clear ka)
      refine hK.out _ _ trivial (fun hHeld => ?_)
      clear hK K
      try simp only [Act.put, Array.getInternal_eq_getElem, List.getElem_toArray, List.getElem_cons_zero, List.getElem_cons_succ, List.setIfInBounds_toArray, List.set_cons_zero, List.set_cons_succ]
      refine wpAnyH_take (i := 5) (v := ?_) rfl (by kernel_rfl) (by kernel_rfl) (by kernel_rfl) (fun _ _ _ h => h) (Or.inl ⟨by kernel_rfl, ?_⟩) (by assumption) ?_
      rotate_left
      · (intro w hSw; (try dsimp only at hSw); go_simp) <;> (try (with_reducible rfl))
      try simp only [Act.put, Array.getInternal_eq_getElem, List.getElem_toArray, List.getElem_cons_zero, List.getElem_cons_succ, List.setIfInBounds_toArray, List.set_cons_zero, List.set_cons_succ]
      refine wpAnyH_ready (rs := [0]) (by kernel_rfl) (by simp) ?_
      refine AllReadyH.cons rfl (fun K hK => ?_) AllReadyH.nil
      (rw [if_pos (by kernel_rfl)]; simp only [Array.getInternal_eq_getElem, List.getElem_toArray, List.getElem_cons_zero, List.getElem_cons_succ]; refine wp_load_mid 29 _ rfl w2.heap.size 0 rfl C1 _ (HC3.out _ KA.out) Try.underlying29 rfl HFZ.out ?_)
      refine hK.out _ _ trivial (fun hHeld => ?_)
      clear hK K
      try simp only [Act.put, Array.getInternal_eq_getElem, List.getElem_toArray, List.getElem_cons_zero, List.getElem_cons_succ, List.setIfInBounds_toArray, List.set_cons_zero, List.set_cons_succ]
      refine wpAnyH_ready (rs := [6]) (by kernel_rfl) (by simp) ?_
      refine AllReadyH.cons rfl (fun K hK => ?_) AllReadyH.nil
      (rw [if_pos (by kernel_rfl)]; go_simp; go_at_call 52; refine (HRR.out _ ((KW3.out _).trans KA.out)).mono ?_; rintro e wb ⟨v, rfl, yb⟩; have YB := Lib.hid yb; have KB := Lib.hid (KA.out.trans (yb.keep _)); clear yb; obtain ⟨tq, bq, kq⟩ := p_store (cs := hcs X.1 v) (Blk.keeps HB3.out KB.out (fun z => z)) (by rw [hcs_len HXW.out, ← hC1, hcs_len HWF.out]); have HTQ := Lib.hid tq; have HBQ := Lib.hid bq; have HKQ := Lib.hid kq; have HXZ := Lib.hid (hd_sz HXW.out v); have HXO : Hid (((hcs X.1 v).toArray.all fun x => x.oneCell') = true) := Lib.hid (by obtain ⟨A9, c9, rfl, _⟩ := YB.out.rd; exact all_oneCell_toArray (hcs_one rfl)); clear tq bq kq; generalize hCX : hcs X.1 v = CX at *; have HCX := Lib.hid hCX; clear hCX)
      refine hK.out _ _ trivial (fun hHeld => ?_)
      clear hK K
      try simp only [Act.put, Array.getInternal_eq_getElem, List.getElem_toArray, List.getElem_cons_zero, List.getElem_cons_succ, List.setIfInBounds_toArray, List.set_cons_zero, List.set_cons_succ]
      refine wpAnyH_take (i := 7) (v := ?_) rfl (by kernel_rfl) (by kernel_rfl) (by kernel_rfl) (fun _ _ _ h => h) (Or.inl ⟨by kernel_rfl, ?_⟩) (by assumption) ?_
      rotate_left
      · (intro w hSw; (try dsimp only at hSw); go_simp) <;> (try (with_reducible rfl))
      try simp only [Act.put, Array.getInternal_eq_getElem, List.getElem_toArray, List.getElem_cons_zero, List.getElem_cons_succ, List.setIfInBounds_toArray, List.set_cons_zero, List.set_cons_succ]
      refine wpAnyH_take (i := 8) (v := ?_) rfl (by kernel_rfl) (by kernel_rfl) (by kernel_rfl) (fun _ _ _ h => h) (Or.inl ⟨by kernel_rfl, ?_⟩) (by assumption) ?_
      rotate_left
      · (intro w hSw; (try dsimp only at hSw); go_simp) <;> (try (with_reducible rfl))
      try simp only [Act.put, Array.getInternal_eq_getElem, List.getElem_toArray, List.getElem_cons_zero, List.getElem_cons_succ, List.setIfInBounds_toArray, List.set_cons_zero, List.set_cons_succ]
      refine wpAnyH_take (i := 9) (v := ?_) rfl (by kernel_rfl) (by kernel_rfl) (by kernel_rfl) (fun _ _ _ h => h) (Or.inl ⟨by kernel_rfl, ?_⟩) (by assumption) ?_
      rotate_left
      · (intro w hSw; (try dsimp only at hSw); go_simp) <;> (try (with_reducible rfl))
      try simp only [Act.put, Array.getInternal_eq_getElem, List.getElem_toArray, List.getElem_cons_zero, List.getElem_cons_succ, List.setIfInBounds_toArray, List.set_cons_zero, List.set_cons_succ]
      refine wpAnyH_ready (rs := [10]) (by kernel_rfl) (by simp) ?_
      refine AllReadyH.cons rfl (fun K hK => ?_) AllReadyH.nil
      (rw [if_pos (by kernel_rfl)]; simp only [Array.getInternal_eq_getElem, List.getElem_toArray, List.getElem_cons_zero, List.getElem_cons_succ]; refine wp_store_mid 29 _ _ rfl w2.heap.size 0 CX.toArray rfl rfl HTQ.out HXZ.out HXO.out ?_; obtain ⟨w5, hw5⟩ : ∃ w5, w5 = wb.setCells w2.heap.size 0 CX := ⟨_, rfl⟩; have HW5 := Lib.hid hw5; simp only [List.toList_toArray]; rw [← HW5.out]; clear hw5)
      refine hK.out _ _ trivial (fun hHeld => ?_)
      clear hK K
      try simp only [Act.put, Array.getInternal_eq_getElem, List.getElem_toArray, List.getElem_cons_zero, List.getElem_cons_succ, List.setIfInBounds_toArray, List.set_cons_zero, List.set_cons_succ]
      refine wpAnyH_take (i := 11) (v := ?_) rfl (by kernel_rfl) (by kernel_rfl) (by kernel_rfl) (fun _ _ _ h => h) (Or.inl ⟨by kernel_rfl, ?_⟩) (by assumption) ?_
      rotate_left
      · (intro w hSw; (try dsimp only at hSw); go_simp) <;> (try (with_reducible rfl))
      try simp only [Act.put, Array.getInternal_eq_getElem, List.getElem_toArray, List.getElem_cons_zero, List.getElem_cons_succ, List.setIfInBounds_toArray, List.set_cons_zero, List.set_cons_succ]
      refine wpAnyH_done ?_ ?_ _
      · kernel_rfl
      --@T
      have k5 := HKQ.out
      rw [← HW5.out] at k5
      have hb5 := HBQ.out
      rw [← HW5.out] at hb5
      have g5 : Blk w5 w.heap.size 29 zhd := Blk.keeps (Blk.keeps HB13.out KB.out (fun z => z)) k5 (by have := HS3.out.1; omega)
      have kk5 : ∀ S, Keeps S w w5 := keeps_own (fun S => (KK3.out S).trans (KB.out.mono (fun _ _ z => z.elim))) k5 (by have := HS3.out.1; omega)
      obtain ⟨tr, br, kr⟩ := p_store g5 (cs := CX) (by rw [← HCX.out, hcs_len HXW.out]; rfl)
      have hsz := KA.out.size
      have yw : By w w5 v X.1.dat := past_ (YB.out.base (fun S => (KK3.out S).trans (KA.out.mono (fun _ _ z => z.elim)))) k5 (by have := HS3.out.1; omega) (YB.out.apart (by have := HS3.out.2; omega))
      have yr := past_ yw kr (Nat.le_refl _) (YB.out.apart (by have := HS3.out.1; have := HS3.out.2; omega))
      have HTR := Lib.hid tr
      have HBR := Lib.hid br
      have HYR := Lib.hid yr
      have HB5 := Lib.hid hb5
      clear k5 hb5 g5 kk5 tr br kr yw yr hsz
      go_wp2_with (first
        | (refine wpList_load_mid rfl 29 _ rfl w2.heap.size 0 rfl CX _ (Blk.range HB5.out) Try.underlying29 rfl HXZ.out ?_)
        | ((with_reducible show wpList _ _ _ (⟨none, .store _ (.tmp 2) _, _, _, _, _⟩ :: _) _ _); refine' wpList_store_mid rfl 29 _ _ rfl w.heap.size 0 (CX).toArray ?hx rfl ?ht HXZ.out HXO.out ?_; (case hx => rfl); (case ht => exact HTR.out)))
      try rw [Exit.noGoto_ret]
      refine bodyPost_ret (ret_cell2 (p := 2) (u := 3) (v := 4) (ty := 29) (by kernel_rfl) _ _ _ w.heap.size _ _ _ (by rfl) HBR.out Try.underlying29 rfl HXZ.out) rfl ?_
      exact ⟨v, by unfold hvv; rw [HCX.out]; rfl, HYR.out⟩

theorem read_ (A : Option Addr) (n c B : Nat) (l : List Nat) (hl : l.length = n) (hn : n ≤ 140737488355328) (hc : n ≤ c) (hc9 : c ≤ 9223372036854775807) (hs : Small l) (hr : Rd w B A (by_ l)) (hB : B ≤ w.heap.size) :
    Calls Try.prog 26 #[.slice A n c] w fun e w' => RA w w' e (rdd l) := by
  unfold rdd
  split
  · rename_i he; exact read_e w A n c B l hl hn hc hc9 hs hr hB he
  · rename_i he
    have he' := Classical.not_not.1 he
    split
    · rename_i hx; exact read_r w A n c B l hl hn hc hc9 hs hr hB he' hx
    · rename_i hx; exact read_ok w A n c B l hl hn hc hc9 hs hr hB he' (Classical.not_not.1 hx)
end
end Go.Proofs.Ytidengmcbppcoaa.pk
