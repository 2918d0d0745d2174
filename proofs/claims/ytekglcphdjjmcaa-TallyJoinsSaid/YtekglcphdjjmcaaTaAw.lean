/-
  tally: awake.
-/
import Derived.Test.YtekglcphdjjmcaaTaWk
set_option linter.unusedVariables false
namespace Go.Proofs.Ytekglcphdjjmcaa.th
open Go.RowKit Go.Proofs.Ytekglcphdjjmcaa.oc Go.Proofs.Ytekglcphdjjmcaa.mz Go.Proofs.Ytekglcphdjjmcaa.at_ Go.Proofs.Ytekglcphdjjmcaa.gt Go.Proofs.Ytekglcphdjjmcaa.gw Go.Proofs.Ytekglcphdjjmcaa.tac
def told : List (Nat × Nat) := [(3, 3), (3, 65), (1, 66), (5, 66)]
theorem bits5 : Lib.bitLen 5 = 3 := by decide
theorem told5 : comeM 5 0 = told := by unfold comeM maxM; rw [bits5]; rfl
/-- what a histogram holds to which 5 came -/
def five : List Nat := ((List.replicate 66 0).set 3 1).set 65 5
theorem come5 : come 5 (List.replicate 66 0) = five := by
  unfold come one
  rw [bits5, W64_eq]
  rfl
theorem five_len : five.length = 66 := by decide
theorem tadd5 : (([0, 0] : List Nat)[0]?.getD 0 + 5) % W64 = 5 := by rw [W64_eq]; rfl
theorem tadd2 : (([5, 0] : List Nat)[1]?.getD 0 + 2) % W64 = 2 := by rw [W64_eq]; rfl
theorem sum7 : ta.sumW [5, 2] = 7 := by unfold ta.sumW; rw [W64_eq]; rfl
set_option maxRecDepth 100000 in
set_option maxHeartbeats 4000000 in
theorem awake_ (w : World) : Calls Try.prog 14 #[] w fun e w' => e = .returned (.bool true) ∧ ∀ S, Keeps S w w' := by
  have HM := Lib.hid (made_ 2 w (by decide) (by decide))
  have hc2 : ((2 : Nat) : Int) = 2 := rfl
  rw [hc2] at HM
  clear hc2
  have hpp := pair_ptr
  go_enter Try.func14, Try.ntmps14
  go_wp2_with fail
  refine HM.out.mono ?_
  rintro e w1 ⟨P, T, TW, H, W, C, rfl, ⟨p1, t1, h1, hP, hT, hTW, hH, hW, hC, n1, n2, n3, n4, n5, n6, n7, n8, n9, n10, n11⟩, k1⟩
  have K1 : Hid (∀ S, Keeps S w w1) := Lib.hid k1
  have P1 := Lib.hid p1
  have H1 := Lib.hid h1
  have NE := Lib.hid (show w.heap.size ≤ P ∧ w.heap.size ≤ T ∧ w.heap.size ≤ TW ∧ w.heap.size ≤ H ∧ w.heap.size ≤ W ∧ w.heap.size ≤ C ∧ P ≠ TW ∧ H ≠ TW ∧ W ≠ TW ∧ C ≠ TW from ⟨hP, hT, hTW, hH, hW, hC, n8, n4.symm, n5.symm, n6.symm⟩)
  have NP := Lib.hid (show P ≠ H ∧ P ≠ W ∧ P ≠ C ∧ P < w1.heap.size ∧ H < w1.heap.size ∧ W < w1.heap.size ∧ C < w1.heap.size from ⟨n9, n10, n11, p1.blk.lt, h1.ltH, h1.ltW, h1.ltC⟩)
  have c0 := p1.cell0
  have HA := Lib.hid (ta.tadd_ T TW 2 0 (List.replicate 2 0) .nilIface [] (fun _ => False) w1 0 5 t1 (GF.nil_ _ _ _ _) (by simp) (fun z => z) (fun z => z) (by decide))
  rw [show (List.replicate 2 0 : List Nat) = [0, 0] from rfl, tadd5] at HA
  have e0 : ((0 : Nat) : Int) = 0 := rfl
  have e5 : ((5 : Nat) : Int) = 5 := rfl
  rw [e0, e5] at HA
  clear k1 p1 h1 t1 hP hT hTW hH hW hC n1 n2 n3 n4 n5 n6 n7 n8 n9 n10 n11 e0 e5 HM
  go_wp2_with fail
  refine HA.out.mono ?_
  rintro e w2 ⟨rfl, t2, -, k2⟩
  have k2' : Keeps (· = TW) w1 w2 := k2.mono (fun b _ z => by rcases z with z | z; exact z; exact z.elim)
  have K2 := Lib.hid k2'
  have ne := NE.out
  have P2 := Lib.hid (P1.out.keeps k2' ne.2.2.2.2.2.2.1)
  have H2 := Lib.hid (H1.out.keeps k2' ne.2.2.2.2.2.2.2.1 ne.2.2.2.2.2.2.2.2.1 ne.2.2.2.2.2.2.2.2.2)
  have c0' := P2.out.cell0
  have HA2 := Lib.hid (ta.tadd_ T TW 2 0 [5, 0] .nilIface [] (fun _ => False) w2 1 2 t2 (GF.nil_ _ _ _ _) (by simp) (fun z => z) (fun z => z) (by decide))
  rw [tadd2] at HA2
  have e1 : ((1 : Nat) : Int) = 1 := rfl
  have e2 : ((2 : Nat) : Int) = 2 := rfl
  rw [e1, e2] at HA2
  clear k2 k2' t2 ne e1 e2 c0 HA
  go_wp2_with fail
  refine HA2.out.mono ?_
  rintro e w3 ⟨rfl, t3, -, k3⟩
  have k3' : Keeps (· = TW) w2 w3 := k3.mono (fun b _ z => by rcases z with z | z; exact z; exact z.elim)
  have K3 := Lib.hid (K2.out.trans k3')
  have ne := NE.out
  have P3 := Lib.hid (P2.out.keeps k3' ne.2.2.2.2.2.2.1)
  have H3 := Lib.hid (H2.out.keeps k3' ne.2.2.2.2.2.2.2.1 ne.2.2.2.2.2.2.2.2.1 ne.2.2.2.2.2.2.2.2.2)
  have c0 := P3.out.cell0
  have HSU := Lib.hid (ta.sum_ T TW 2 [5, 2] w3 t3)
  rw [sum7] at HSU
  have e7 : ((7 : Nat) : Int) = 7 := rfl
  rw [e7] at HSU
  clear k3 k3' t3 ne e7 c0' HA2
  go_wp2_with fail
  refine HSU.out.mono ?_
  rintro e w4 ⟨rfl, k4⟩
  have K4 : Hid (∀ S, Keeps S w3 w4) := Lib.hid k4
  have HNN := Lib.hid (new_notes w4)
  clear k4 HSU c0
  go_wp2_with fail
  refine HNN.out.mono ?_
  rintro e w5 ⟨rfl, n5, k5⟩
  have kk5 : ∀ S, Keeps S w3 w5 := fun S => (K4.out S).trans (k5 S)
  have p5 := P3.out.keeps (kk5 (fun _ => False)) (fun z => z)
  have h5 := H3.out.keeps (kk5 (fun _ => False)) (fun z => z) (fun z => z) (fun z => z)
  have np := NP.out
  have z34 := K3.out.size
  have z4 := (K4.out (fun _ => False)).size
  have z5 := (k5 (fun _ => False)).size
  have HHA := Lib.hid (hadd_ H W C 0 5 w4.heap.size (List.replicate 66 0) (.iface 47 (.pointer (some ⟨w4.heap.size, 0, none⟩))) [] (· = w4.heap.size) w5 h5 (.inr ⟨rfl, n5⟩) (by simp) (fun z => by omega) (fun z => by omega) (fun z => by omega) (fun b hb => (n5.above b hb).2) (by decide))
  rw [come5, told5, List.nil_append, show max 0 5 = 5 from rfl] at HHA
  have e5 : ((5 : Nat) : Int) = 5 := rfl
  rw [e5] at HHA
  have c1 := p5.cell1
  have P5 := Lib.hid p5
  have K5 : Hid (∀ S, Keeps S w3 w5) := Lib.hid kk5
  have Z5 := Lib.hid (show w1.heap.size ≤ w4.heap.size ∧ w4.heap.size ≤ w5.heap.size ∧ w.heap.size ≤ w1.heap.size from ⟨Nat.le_trans z34 z4, z5, (K1.out (fun _ => False)).size⟩)
  have H5 := Lib.hid h5
  clear kk5 p5 h5 n5 k5 np z34 z4 z5 e5 HNN
  generalize w4.heap.size = N at *
  go_wp2_with fail
  refine HHA.out.mono ?_
  rintro e w6 ⟨rfl, q6⟩
  have np := NP.out
  have z5 := Z5.out
  have k6 := q6.keep
  have p6 := P5.out.keeps k6 (fun z => by rcases z with z | z | z <;> omega)
  have c1' := p6.cell1
  have HG := Lib.hid (hget_ H W C 5 five w6 q6.th)
  have Q6 := Lib.hid q6
  have hz := hist_zero
  clear c1 np z5 k6 p6 q6 HHA
  go_wp2_with fail
  refine HG.out.mono ?_
  rintro e w7 ⟨rfl, k7⟩
  have K7 : Hid (∀ S, Keeps S w6 w7) := Lib.hid k7
  have hg7 : GF w7 (.iface 47 (.pointer (some ⟨N, 0, none⟩))) N told (mz.Grown w5 w6 (· = N)) := Q6.out.gate.keeps (k7 (fun _ => False)) (fun _ _ z => z)
  have hni : NInv w7 N told (mz.Grown w5 w6 (· = N)) := by
    rcases hg7 with z | z
    · cases z
    · exact z.2
  have HNI := Lib.hid hni
  clear hni hg7 k7 HG c1'
  have hvv : hv (five ++ [5]) = .agg (u64s (five ++ [5])).toArray := rfl
  rw [hvv]
  clear hvv
  obtain ⟨Z, hZ⟩ : ∃ Z, Z = zh := ⟨_, rfl⟩
  rw [← hZ] at hz
  have b8 := Blk.new w7 34 Z
  have hZl : Z.toList.length = 67 := by rw [hZ]; rfl
  have k8 : ∀ S, Keeps S w7 (w7.alloc (.cells Z 34)) := fun S => (Keeps.refl S w7).alloc _
  have hL : (five ++ [5]).length = 67 := by rw [List.length_append, five_len]; rfl
  have HTH : Hid ((w7.alloc (.cells Z 34)).there w7.heap.size 0 (u64s (five ++ [5])).toArray.size ∧ (Try.prog.info? 34).map (·.size) = some (u64s (five ++ [5])).toArray.size ∧ ((u64s (five ++ [5])).toArray).all (·.oneCell') = true) := Lib.hid ⟨by have := wh.Blk.thereAll b8; rw [hZl] at this; rw [show (u64s (five ++ [5])).toArray.size = 67 from by rw [List.size_toArray, u64s, List.length_map, hL]]; exact this, by have := hist_size hL; simpa using this, wh.u64_ones _⟩
  have b9 : Blk ((w7.alloc (.cells Z 34)).setCells w7.heap.size 0 (u64s (five ++ [5]))) w7.heap.size 34 (u64s (five ++ [5])) := wh.Blk.setAll b8 _ (by rw [hZl, u64s, List.length_map, hL])
  have k9 : ∀ S, Keeps S w7 ((w7.alloc (.cells Z 34)).setCells w7.heap.size 0 (u64s (five ++ [5]))) := fun S => ⟨by have := (wh.keeps_setCells w7.heap.size (u64s (five ++ [5])) (w7.alloc (.cells Z 34)) 0).size; have := (k8 S).size; omega, fun b hb hs => by
    rw [(wh.keeps_setCells w7.heap.size (u64s (five ++ [5])) (w7.alloc (.cells Z 34)) 0).block b (by have := (k8 S).size; omega) (by omega)]
    exact (k8 S).block b hb hs, (k8 S).same.trans (wh.keeps_setCells w7.heap.size (u64s (five ++ [5])) (w7.alloc (.cells Z 34)) 0).same⟩
  have B9 := Lib.hid b9
  have K9 : Hid (∀ S, Keeps S w7 ((w7.alloc (.cells Z 34)).setCells w7.heap.size 0 (u64s (five ++ [5])))) := Lib.hid k9
  have HL : Hid ((u64s (five ++ [5]))[3]? = some (.int .u64 1) ∧ (u64s (five ++ [5]))[65]? = some (.int .u64 5) ∧ (u64s (five ++ [5]))[66]? = some (.int .u64 5)) := Lib.hid ⟨rfl, rfl, rfl⟩
  clear b8 hZl k8 hL b9 k9 hZ
  generalize u64s (five ++ [5]) = Y at *
  go_wp2_with (first
    | (refine wpList_store_mid rfl 34 _ _ rfl w7.heap.size 0 Y.toArray rfl rfl HTH.out.1 HTH.out.2.1 HTH.out.2.2 ?_; rw [List.toList_toArray]))
  clear HTH hz
  generalize (w7.alloc (.cells Z 34)).setCells w7.heap.size 0 Y = w8 at *
  obtain ⟨w9, hw9, k9, b9⟩ := enter_blk w8 #[.int .u8 3, .int .i64 3, .int .u8 3, .int .i64 65, .int .u8 1, .int .i64 66, .int .u8 5, .int .i64 66] 79
  rw [← hw9]
  have h9 := HNI.out.keeps ((K9.out (fun _ => False)).trans (k9 (fun _ => False))) (fun _ _ z => z)
  have hmk := marks_notes N w9 told _ h9 (by decide) (by decide)
  rw [show told.length = 4 from rfl] at hmk
  have HMK := Lib.hid hmk
  have KK9 : Hid (∀ S, Keeps S w8 w9) := Lib.hid k9
  have BM : Hid (Blk w9 w8.heap.size 79 (flat2 told)) := Lib.hid b9
  clear hw9 k9 b9 h9 hmk
  generalize w8.heap.size = M at *
  refine HMK.out.mono ?_
  rintro e w10 ⟨A, c, rfl, hm, k10⟩
  obtain ⟨A', c', he, hrd⟩ := hm
  injection he with he1 _ he2
  subst he1
  subst he2
  have hb10 := Blk.keeps BM.out (k10 (fun _ => False)) (fun z => z)
  have hrd' : Rd w10 w10.heap.size (some ⟨M, 0, none⟩) (flat2 told) := fun k v hk => ⟨M, 0, rfl, hb10.lt, by rw [hb10.cell, Nat.zero_add]; exact hk⟩
  have HSM := Lib.hid (same_marks _ (some ⟨M, 0, none⟩) told 4 c 4 _ _ w10 rfl (by omega) hrd hrd')
  have K10 : Hid (∀ S, Keeps S w9 w10) := Lib.hid k10
  have bh := Blk.keeps (Blk.keeps B9.out (KK9.out (fun _ => False)) (fun z => z)) (k10 (fun _ => False)) (fun z => z)
  have BH := Lib.hid bh
  clear hrd hrd' hb10 k10 HMK bh
  go_wp2_with fail
  refine HSM.out.mono ?_
  rintro e w11 ⟨rfl, d, hd⟩
  have k11 : ∀ S, Keeps S w10 w11 := fun S => by rw [← hd]; exact Keeps.of_drew _ _
  have bh := Blk.keeps BH.out (k11 (fun _ => False)) (fun z => z)
  have e3 : w11.cell? ⟨w7.heap.size, 3, none⟩ = some (.int .u64 1) := by rw [bh.cell]; exact HL.out.1
  have e65 : w11.cell? ⟨w7.heap.size, 65, none⟩ = some (.int .u64 5) := by rw [bh.cell]; exact HL.out.2.1
  have e66 : w11.cell? ⟨w7.heap.size, 66, none⟩ = some (.int .u64 5) := by rw [bh.cell]; exact HL.out.2.2
  have K11 : Hid (∀ S, Keeps S w10 w11) := Lib.hid k11
  clear k11 hd bh HSM
  go_wp2
  go_ret
  refine ⟨rfl, fun S => ?_⟩
  have ne := NE.out
  have z5 := Z5.out
  have k : Keeps (fun b => b = TW ∨ b = W ∨ b = C ∨ b = N) w w11 := (((((((((K1.out _).trans (K3.out.mono (fun _ _ z => .inl z))).trans (K5.out _)).trans (Q6.out.keep.mono (fun _ _ z => .inr z))).trans (K7.out _)).trans (K9.out _)).trans (KK9.out _)).trans (K10.out _)).trans (K11.out _))
  exact k.mono (fun b hb e => by rcases e with e | e | e | e <;> omega)
end Go.Proofs.Ytekglcphdjjmcaa.th
