/-
  patchbayref12's Check, wrong, at, Take, Level, Most.
-/
import Derived.Test.YtbiadglhfpapaaaBkW2
import Derived.Deep.RegionHeld3
import Derived.StillTailTactics
import Derived.Deep.QuietTactic
import Derived.BigQuiet
import Derived.BigRegion
set_option linter.unusedVariables false
namespace Go.Proofs.Ytbiadglhfpapaaa.bk
open Go.RowKit Go.Proofs.Ytbiadglhfpapaaa.oc Go.Proofs.Ytbiadglhfpapaaa.mz
/-- a bucket -/
def bv (n d b : Nat) : Value := .agg #[.int .u64 (n : Int), .int .u64 (d : Int), .int .u64 (b : Int)]
/-- may it be? -/
def May (n d b : Nat) : Prop := (1 ≤ n ∧ n ≤ 65536) ∧ (1 ≤ d ∧ d ≤ 65536) ∧ 1 ≤ b ∧ b ≤ 1048576
instance (n d b : Nat) : Decidable (May n d b) := by unfold May; infer_instance
section
variable (w : World) (n d b : Nat)
set_option maxRecDepth 100000 in
set_option maxHeartbeats 1000000 in
theorem check_ok (h : May n d b) : Calls Try.prog 11 #[bv n d b] w fun e w' => e = .returned (.int .i64 0) ∧ ∀ S, Keeps S w w' := by
  obtain ⟨⟨n0, n1⟩, ⟨d0, d1⟩, b0, b1⟩ := h
  have q1 : ¬ (n : Int) < 1 := by omega
  have q2 : ¬ (65536 : Int) < (n : Int) := by omega
  have q3 : ¬ (d : Int) < 1 := by omega
  have q4 : ¬ (65536 : Int) < (d : Int) := by omega
  have q5 : ¬ (b : Int) < 1 := by omega
  have q6 : ¬ (1048576 : Int) < (b : Int) := by omega
  clear n0 n1 d0 d1 b0 b1
  unfold bv
  go_enter Try.func11, Try.ntmps11
  go_wp2
  try rw [Exit.noGoto_ret]
  go_ret
  exact ⟨rfl, fun S => (Keeps.refl S w).alloc _⟩
set_option maxRecDepth 100000 in
set_option maxHeartbeats 1000000 in
theorem check_no (h : ¬ May n d b) : Calls Try.prog 11 #[bv n d b] w fun e w' => e = .returned (.int .i64 2) ∧ ∀ S, Keeps S w w' := by
  have hq : (n : Int) < 1 ∨ (¬ (n : Int) < 1 ∧ ((65536 : Int) < (n : Int) ∨ (¬ (65536 : Int) < (n : Int) ∧ ((d : Int) < 1 ∨ (¬ (d : Int) < 1 ∧ ((65536 : Int) < (d : Int) ∨ (¬ (65536 : Int) < (d : Int) ∧ ((b : Int) < 1 ∨ (¬ (b : Int) < 1 ∧ (1048576 : Int) < (b : Int)))))))))) := by
    unfold May at h; omega
  clear h
  unfold bv
  rcases hq with q1 | ⟨q1, q2 | ⟨q2, q3 | ⟨q3, q4 | ⟨q4, q5 | ⟨q5, q6⟩⟩⟩⟩⟩
  all_goals
    go_enter Try.func11, Try.ntmps11
    go_wp2
    try rw [Exit.noGoto_ret]
    go_ret
    exact ⟨rfl, fun S => (Keeps.refl S w).alloc _⟩
/-- the error of a bucket and a tick -/
def err (n d b now : Nat) : Int := if May n d b then (if now ≤ 1099511627776 then 0 else 5) else 2
set_option maxRecDepth 100000 in
set_option maxHeartbeats 1000000 in
theorem wrong_ (now : Nat) : Calls Try.prog 33 #[bv n d b, .int .u64 (now : Int)] w fun e w' => e = .returned (.int .i64 (err n d b now)) ∧ ∀ S, Keeps S w w' := by
  unfold bv
  by_cases hm : May n d b
  · have HC := fun w => Lib.hid (check_ok w n d b hm)
    unfold bv at HC
    rcases Nat.lt_or_ge 1099511627776 now with h | h
    · have he : err n d b now = 5 := by simp [err, hm]; omega
      rw [he]
      have q1 : (1099511627776 : Int) < (now : Int) := by omega
      clear hm he h
      go_enter Try.func33, Try.ntmps33
      go_wp2_with fail
      refine (HC _).out.mono ?_
      rintro e w1 ⟨rfl, k1⟩
      have K1 : Hid (∀ S, Keeps S w w1) := Lib.hid (fun S => ((Keeps.refl S w).alloc _).trans (k1 S))
      clear k1
      go_wp2
      try rw [Exit.noGoto_ret]
      go_ret
      exact ⟨rfl, K1.out⟩
    · have he : err n d b now = 0 := by simp [err, hm]; omega
      rw [he]
      have q1 : ¬ (1099511627776 : Int) < (now : Int) := by omega
      clear hm he h
      go_enter Try.func33, Try.ntmps33
      go_wp2_with fail
      refine (HC _).out.mono ?_
      rintro e w1 ⟨rfl, k1⟩
      have K1 : Hid (∀ S, Keeps S w w1) := Lib.hid (fun S => ((Keeps.refl S w).alloc _).trans (k1 S))
      clear k1
      go_wp2
      try rw [Exit.noGoto_ret]
      go_ret
      exact ⟨rfl, K1.out⟩
  · have HC := fun w => Lib.hid (check_no w n d b hm)
    unfold bv at HC
    have he : err n d b now = 2 := by simp [err, hm]
    rw [he]
    clear hm he
    go_enter Try.func33, Try.ntmps33
    go_wp2_with fail
    refine (HC _).out.mono ?_
    rintro e w1 ⟨rfl, k1⟩
    have K1 : Hid (∀ S, Keeps S w w1) := Lib.hid (fun S => ((Keeps.refl S w).alloc _).trans (k1 S))
    clear k1
    go_wp2
    try rw [Exit.noGoto_ret]
    go_ret
    exact ⟨rfl, K1.out⟩
set_option maxRecDepth 100000 in
set_option maxHeartbeats 4000000 in
theorem at_ (s now : Nat) (hn : n ≤ 65536) (hs : s < 18446744073709551616) (ht : now ≤ 1099511627776) : Calls Try.prog 34 #[bv n d b, .int .u64 (s : Int), .int .u64 (now : Int)] w fun e w' => e = .returned (.tuple #[wd (max s (now * n)), wd (max s (now * n) - now * n)]) ∧ ∀ S, Keeps S w w' := by
  have hp : now * n ≤ 1099511627776 * 65536 := Nat.mul_le_mul ht hn
  obtain ⟨ca, cb, h1, h2, ec⟩ := wd_parts (now * n)
  obtain ⟨sa, sb, h3, h4, es⟩ := wd_parts s
  have HT := fun w => Lib.hid (times_ w now n (by omega) (by omega))
  have HW := fun w => Lib.hid (word_ w s hs)
  have HA := fun w => Lib.hid (above_ w (now * n) s)
  rw [ec] at HT HA
  rw [es] at HW HA
  unfold bv
  rcases Nat.lt_or_ge s (now * n) with hc | hc
  · have hm : max s (now * n) = now * n := by omega
    rw [hm]
    have HM := fun w => Lib.hid (minus_ w (now * n) (now * n) (by omega) (by omega))
    obtain ⟨ra, rb, hr1, hr2, er⟩ := wd_parts (now * n - now * n)
    rw [ec, er] at HM
    rw [ec, er]
    rw [decide_eq_true hc] at HA
    clear hn hs ht hm hc ec es er hp h1 h2 h3 h4 hr1 hr2
    go_enter Try.func34, Try.ntmps34
    go_wp2_with fail
    obtain ⟨w0, hw0⟩ : ∃ w0, w0 = ((w.alloc (.cells #[.int .u64 (n : Int), .int .u64 (d : Int), .int .u64 (b : Int)] 24)).alloc (.cells #[.int .u64 0, .int .u64 0] 60)).alloc (.cells #[.int .u64 0, .int .u64 0] 60) := ⟨_, rfl⟩
    have B1 := ((Blk.new (w.alloc (.cells #[.int .u64 (n : Int), .int .u64 (d : Int), .int .u64 (b : Int)] 24)) 60 #[.int .u64 0, .int .u64 0]).alloc (.cells #[.int .u64 0, .int .u64 0] 60))
    have B2 := Blk.new ((w.alloc (.cells #[.int .u64 (n : Int), .int .u64 (d : Int), .int .u64 (b : Int)] 24)).alloc (.cells #[.int .u64 0, .int .u64 0] 60)) 60 #[.int .u64 0, .int .u64 0]
    have k0 : ∀ S, Keeps S w w0 := fun S => by rw [hw0]; exact (((Keeps.refl S w).alloc _).alloc _).alloc _
    rw [World.size_alloc] at B1
    rw [World.size_alloc, World.size_alloc] at B2
    rw [← hw0] at B1 B2 ⊢
    obtain ⟨R1, hR1⟩ : ∃ R1, R1 = w.heap.size + 1 := ⟨_, rfl⟩
    obtain ⟨R2, hR2⟩ : ∃ R2, R2 = w.heap.size + 1 + 1 := ⟨_, rfl⟩
    rw [← hR2] at B2 ⊢
    rw [← hR1] at B1 ⊢
    have HRR := Lib.hid (show w.heap.size < R1 ∧ R1 < R2 from by omega)
    have K0 : Hid (∀ S, Keeps S w w0) := Lib.hid k0
    clear hw0 hR1 hR2 k0
    refine (HT _).out.mono ?_
    rintro e w1 ⟨rfl, k1⟩
    have K1 : Hid (∀ S, Keeps S w w1) := Lib.hid (fun S => (K0.out S).trans (k1 S))
    have B1' := Blk.keeps B1 (k1 (fun _ => False)) (fun z => z)
    have B2' := Blk.keeps B2 (k1 (fun _ => False)) (fun z => z)
    clear k1 B1 B2
    have bC := Blk.new w1 60 #[.int .u64 (ca : Int), .int .u64 (cb : Int)]
    have HB := Lib.hid (show Blk (w1.alloc (.cells #[.int .u64 (ca : Int), .int .u64 (cb : Int)] 60)) R1 60 [.int .u64 0, .int .u64 0] ∧ Blk (w1.alloc (.cells #[.int .u64 (ca : Int), .int .u64 (cb : Int)] 60)) R2 60 [.int .u64 0, .int .u64 0] ∧ Blk (w1.alloc (.cells #[.int .u64 (ca : Int), .int .u64 (cb : Int)] 60)) w1.heap.size 60 [.int .u64 (ca : Int), .int .u64 (cb : Int)] from ⟨B1'.alloc _, B2'.alloc _, bC⟩)
    have HLT := Lib.hid (show R2 < w1.heap.size from B2'.lt)
    clear B1' B2' bC
    go_wp2_with fail
    refine (HW _).out.mono ?_
    rintro e w2 ⟨rfl, k2⟩
    have K2 : Hid (∀ S, Keeps S w w2) := Lib.hid (fun S => ((K1.out S).alloc _).trans (k2 S))
    have HB2 := Lib.hid (show Blk (w2.alloc (.cells #[.int .u64 (sa : Int), .int .u64 (sb : Int)] 60)) R1 60 [.int .u64 0, .int .u64 0] ∧ Blk (w2.alloc (.cells #[.int .u64 (sa : Int), .int .u64 (sb : Int)] 60)) R2 60 [.int .u64 0, .int .u64 0] ∧ Blk (w2.alloc (.cells #[.int .u64 (sa : Int), .int .u64 (sb : Int)] 60)) w1.heap.size 60 [.int .u64 (ca : Int), .int .u64 (cb : Int)] ∧ Blk (w2.alloc (.cells #[.int .u64 (sa : Int), .int .u64 (sb : Int)] 60)) w2.heap.size 60 [.int .u64 (sa : Int), .int .u64 (sb : Int)] from ⟨(Blk.keeps HB.out.1 (k2 (fun _ => False)) (fun z => z)).alloc _, (Blk.keeps HB.out.2.1 (k2 (fun _ => False)) (fun z => z)).alloc _, (Blk.keeps HB.out.2.2 (k2 (fun _ => False)) (fun z => z)).alloc _, Blk.new w2 _ _⟩)
    have HLT2 := Lib.hid (show w1.heap.size < w2.heap.size from Nat.lt_of_lt_of_le (by rw [World.size_alloc]; omega) (k2 (fun _ => False)).size)
    clear k2
    obtain ⟨C, hC⟩ : ∃ C, C = w1.heap.size := ⟨_, rfl⟩
    rw [← hC] at HB2 HLT HLT2 ⊢
    have c0 : (w2.alloc (.cells #[.int .u64 (sa : Int), .int .u64 (sb : Int)] 60)).cell? ⟨C, 0, none⟩ = some (.int .u64 (ca : Int)) := by rw [HB2.out.2.2.1.cell]; rfl
    have c1 : (w2.alloc (.cells #[.int .u64 (sa : Int), .int .u64 (sb : Int)] 60)).cell? ⟨C, 1, none⟩ = some (.int .u64 (cb : Int)) := by rw [HB2.out.2.2.1.cell]; rfl
    clear hC
    go_wp2_with fail
    refine (HA _).out.mono ?_
    rintro e w3 ⟨rfl, k3⟩
    have K3 : Hid (∀ S, Keeps S w w3) := Lib.hid (fun S => ((K2.out S).alloc _).trans (k3 S))
    obtain ⟨Z, hZ⟩ : ∃ Z, Z = w2.heap.size := ⟨_, rfl⟩
    have HB3 := Lib.hid (show Blk w3 R1 60 [.int .u64 0, .int .u64 0] ∧ Blk w3 R2 60 [.int .u64 0, .int .u64 0] ∧ Blk w3 C 60 [.int .u64 (ca : Int), .int .u64 (cb : Int)] ∧ Blk w3 Z 60 [.int .u64 (sa : Int), .int .u64 (sb : Int)] from ⟨Blk.keeps HB2.out.1 (k3 (fun _ => False)) (fun z => z), Blk.keeps HB2.out.2.1 (k3 (fun _ => False)) (fun z => z), Blk.keeps HB2.out.2.2.1 (k3 (fun _ => False)) (fun z => z), by rw [hZ]; exact Blk.keeps HB2.out.2.2.2 (k3 (fun _ => False)) (fun z => z)⟩)
    rw [← hZ] at HLT2 ⊢
    clear hZ k3 c0 c1
    have HCR := Lib.hid (show C ≠ R1 ∧ C ≠ R2 from by have h1 := HRR.out; have h2 := HLT.out; omega)
    have HZW := Lib.hid (show w.heap.size < Z ∧ C ≠ Z ∧ R1 ≠ Z ∧ R2 ≠ Z from by have h1 := HRR.out; have h2 := HLT.out; have h3 := HLT2.out; omega)
    have c0 : w3.cell? ⟨C, 0, none⟩ = some (.int .u64 (ca : Int)) := by rw [HB3.out.2.2.1.cell]; rfl
    have c1 : w3.cell? ⟨C, 1, none⟩ = some (.int .u64 (cb : Int)) := by rw [HB3.out.2.2.1.cell]; rfl
    have z0 : w3.cell? ⟨Z, 0, none⟩ = some (.int .u64 (sa : Int)) := by rw [HB3.out.2.2.2.cell]; rfl
    have z1 : w3.cell? ⟨Z, 1, none⟩ = some (.int .u64 (sb : Int)) := by rw [HB3.out.2.2.2.cell]; rfl
    have zf0 := HB3.out.2.2.2.frozen 0
    have zf1 := HB3.out.2.2.2.frozen 1
    go_wp2_with fail
    obtain ⟨w4, hw4⟩ : ∃ w4, w4 = (w3.setCell ⟨Z, 0, none⟩ (.int .u64 (ca : Int))).setCell ⟨Z, 1, none⟩ (.int .u64 (cb : Int)) := ⟨_, rfl⟩
    have kz : Keeps (· = Z) w3 w4 := by rw [hw4]; exact (Keeps.here _).trans (Keeps.here _)
    have bz : Blk w4 Z 60 [.int .u64 (ca : Int), .int .u64 (cb : Int)] := by rw [hw4]; simpa using (HB3.out.2.2.2.put 0 (.int .u64 (ca : Int))).put 1 (.int .u64 (cb : Int))
    have H4 := Lib.hid (show Blk w4 R1 60 [.int .u64 0, .int .u64 0] ∧ Blk w4 R2 60 [.int .u64 0, .int .u64 0] ∧ Blk w4 C 60 [.int .u64 (ca : Int), .int .u64 (cb : Int)] ∧ Blk w4 Z 60 [.int .u64 (ca : Int), .int .u64 (cb : Int)] from ⟨Blk.keeps HB3.out.1 kz HZW.out.2.2.1, Blk.keeps HB3.out.2.1 kz HZW.out.2.2.2, Blk.keeps HB3.out.2.2.1 kz HZW.out.2.1, bz⟩)
    have K4 : Hid (∀ S, Keeps S w w4) := Lib.hid (fun S => by rw [hw4]; exact ((K3.out S).setCell (.inr (Nat.le_of_lt HZW.out.1)) _).setCell (.inr (Nat.le_of_lt HZW.out.1)) _)
    rw [← hw4]
    clear hw4 kz bz z0 z1 zf0 zf1 c0 c1
    clear HB3 HT HW HA
    have b41 := H4.out.1
    have b42 := H4.out.2.1
    have c0 : w4.cell? ⟨C, 0, none⟩ = some (.int .u64 (ca : Int)) := by rw [H4.out.2.2.1.cell]; rfl
    have c1 : w4.cell? ⟨C, 1, none⟩ = some (.int .u64 (cb : Int)) := by rw [H4.out.2.2.1.cell]; rfl
    have z0 : w4.cell? ⟨Z, 0, none⟩ = some (.int .u64 (ca : Int)) := by rw [H4.out.2.2.2.cell]; rfl
    have z1 : w4.cell? ⟨Z, 1, none⟩ = some (.int .u64 (cb : Int)) := by rw [H4.out.2.2.2.cell]; rfl
    clear b41 b42
    have hR12 : ¬ R1 = R2 := by have := HRR.out; omega
    have hR21 : ¬ R2 = R1 := by have := HRR.out; omega
    have hZ1 : Z ≠ R1 := fun e => HZW.out.2.2.1 e.symm
    have hZ2 : Z ≠ R2 := fun e => HZW.out.2.2.2 e.symm
    have hC1 : C ≠ R1 := HCR.out.1
    have hC2 : C ≠ R2 := HCR.out.2
    go_region_held3 (fun w' => w'.cell? ⟨Z, 0, none⟩ = some (.int .u64 (ca : Int)) ∧ w'.cell? ⟨Z, 1, none⟩ = some (.int .u64 (cb : Int)) ∧ w'.cell? ⟨C, 0, none⟩ = some (.int .u64 (ca : Int)) ∧ w'.cell? ⟨C, 1, none⟩ = some (.int .u64 (cb : Int)))
      (first | exact ⟨z0, z1, c0, c1⟩ | exact ⟨y0, y1, d0, d1⟩ | exact ⟨two_cell y0 hZ1, two_cell y1 hZ1, two_cell d0 hC1, two_cell d1 hC1⟩ | exact ⟨two_cell (two_cell y0 hZ1) hZ2, two_cell (two_cell y1 hZ1) hZ2, two_cell (two_cell d0 hC1) hC2, two_cell (two_cell d1 hC1) hC2⟩)
      ((go_at_call 39; refine (HM _).out.mono ?_; rintro e w5 ⟨rfl, k5⟩; have y0 := Keeps.cell (k5 (fun _ => False)) (show w4.drew.cell? _ = _ from z0) (fun z => z); have y1 := Keeps.cell (k5 (fun _ => False)) (show w4.drew.cell? _ = _ from z1) (fun z => z); have d0 := Keeps.cell (k5 (fun _ => False)) (show w4.drew.cell? _ = _ from c0) (fun z => z); have d1 := Keeps.cell (k5 (fun _ => False)) (show w4.drew.cell? _ = _ from c1) (fun z => z); have kk5 : ∀ S, Keeps S w4 w5 := (fun S => Keeps.trans (Keeps.refl S w4).drew (k5 S)); have b51 := Blk.keeps H4.out.1 (kk5 (fun _ => False)) (fun z => z); have b52 := Blk.keeps H4.out.2.1 (kk5 (fun _ => False)) (fun z => z); have g10 : w5.cell? ⟨R1, 0, none⟩ = some (.int .u64 0) := (by rw [b51.cell]; rfl); have g11 : w5.cell? ⟨R1, 1, none⟩ = some (.int .u64 0) := (by rw [b51.cell]; rfl); have g20 : w5.cell? ⟨R2, 0, none⟩ = some (.int .u64 0) := (by rw [b52.cell]; rfl); have g21 : w5.cell? ⟨R2, 1, none⟩ = some (.int .u64 0) := (by rw [b52.cell]; rfl); have f10 := b51.frozen 0; have f11 := b51.frozen 1; have f20 := b52.frozen 0; have f21 := b52.frozen 1; have e20 := two_cell (j := 0) (k := 1) (R := R1) (u1 := .int .u64 (ca : Int)) (u2 := .int .u64 (cb : Int)) g20 hR21; have e21 := two_cell (j := 0) (k := 1) (R := R1) (u1 := .int .u64 (ca : Int)) (u2 := .int .u64 (cb : Int)) g21 hR21; have K5 : Hid (∀ S, Keeps S w w5) := Lib.hid (fun S => (K4.out S).trans (kk5 S)); have B51 := Lib.hid b51; have B52 := Lib.hid b52; clear k5 kk5 b51 b52))
    go_wp2_with fail
    have kR1 : Keeps (· = R1) w5 ((w5.setCell ⟨R1, 0, none⟩ (.int .u64 (ca : Int))).setCell ⟨R1, 1, none⟩ (.int .u64 (cb : Int))) := (Keeps.here _).trans (Keeps.here _)
    have q1 := (B51.out.put 0 (.int .u64 (ca : Int))).put 1 (.int .u64 (cb : Int))
    have q2 := Blk.keeps B52.out kR1 hR21
    have hk : ∀ S, Keeps S w ((w5.setCell ⟨R1, 0, none⟩ (.int .u64 (ca : Int))).setCell ⟨R1, 1, none⟩ (.int .u64 (cb : Int))) := fun S => ((K5.out S).setCell (.inr (Nat.le_of_lt HRR.out.1)) _).setCell (.inr (Nat.le_of_lt HRR.out.1)) _
    generalize (w5.setCell ⟨R1, 0, none⟩ (.int .u64 (ca : Int))).setCell ⟨R1, 1, none⟩ (.int .u64 (cb : Int)) = w6 at *
    have kR2 : Keeps (· = R2) w6 ((w6.setCell ⟨R2, 0, none⟩ (.int .u64 (ra : Int))).setCell ⟨R2, 1, none⟩ (.int .u64 (rb : Int))) := (Keeps.here _).trans (Keeps.here _)
    have s1 := Blk.keeps q1 kR2 hR12
    have s2 := (q2.put 0 (.int .u64 (ra : Int))).put 1 (.int .u64 (rb : Int))
    have hk2 : ∀ S, Keeps S w ((w6.setCell ⟨R2, 0, none⟩ (.int .u64 (ra : Int))).setCell ⟨R2, 1, none⟩ (.int .u64 (rb : Int))) := fun S => ((hk S).setCell (.inr (Nat.le_of_lt (Nat.lt_trans HRR.out.1 HRR.out.2))) _).setCell (.inr (Nat.le_of_lt (Nat.lt_trans HRR.out.1 HRR.out.2))) _
    generalize (w6.setCell ⟨R2, 0, none⟩ (.int .u64 (ra : Int))).setCell ⟨R2, 1, none⟩ (.int .u64 (rb : Int)) = wf at *
    have r10 : wf.cell? ⟨R1, 0, none⟩ = some (.int .u64 (ca : Int)) := by rw [s1.cell]; rfl
    have r11 : wf.cell? ⟨R1, 1, none⟩ = some (.int .u64 (cb : Int)) := by rw [s1.cell]; rfl
    have r20 : wf.cell? ⟨R2, 0, none⟩ = some (.int .u64 (ra : Int)) := by rw [s2.cell]; rfl
    have r21 : wf.cell? ⟨R2, 1, none⟩ = some (.int .u64 (rb : Int)) := by rw [s2.cell]; rfl
    refine bodyPost_ret (v := .tuple #[.agg #[.int .u64 (ca : Int), .int .u64 (cb : Int)], .agg #[.int .u64 (ra : Int), .int .u64 (rb : Int)]]) (by simp [results, Try.results34, go_sem, r10, r11, r20, r21]) rfl ⟨rfl, hk2⟩
  · have hm : max s (now * n) = s := by omega
    rw [hm]
    have HM := fun w => Lib.hid (minus_ w (s) (now * n) (by omega) (by omega))
    obtain ⟨ra, rb, hr1, hr2, er⟩ := wd_parts (s - now * n)
    rw [es, ec, er] at HM
    rw [es, er]
    rw [decide_eq_false (Nat.not_lt.2 hc)] at HA
    clear hn hs ht hm hc ec es er hp h1 h2 h3 h4 hr1 hr2
    go_enter Try.func34, Try.ntmps34
    go_wp2_with fail
    obtain ⟨w0, hw0⟩ : ∃ w0, w0 = ((w.alloc (.cells #[.int .u64 (n : Int), .int .u64 (d : Int), .int .u64 (b : Int)] 24)).alloc (.cells #[.int .u64 0, .int .u64 0] 60)).alloc (.cells #[.int .u64 0, .int .u64 0] 60) := ⟨_, rfl⟩
    have B1 := ((Blk.new (w.alloc (.cells #[.int .u64 (n : Int), .int .u64 (d : Int), .int .u64 (b : Int)] 24)) 60 #[.int .u64 0, .int .u64 0]).alloc (.cells #[.int .u64 0, .int .u64 0] 60))
    have B2 := Blk.new ((w.alloc (.cells #[.int .u64 (n : Int), .int .u64 (d : Int), .int .u64 (b : Int)] 24)).alloc (.cells #[.int .u64 0, .int .u64 0] 60)) 60 #[.int .u64 0, .int .u64 0]
    have k0 : ∀ S, Keeps S w w0 := fun S => by rw [hw0]; exact (((Keeps.refl S w).alloc _).alloc _).alloc _
    rw [World.size_alloc] at B1
    rw [World.size_alloc, World.size_alloc] at B2
    rw [← hw0] at B1 B2 ⊢
    obtain ⟨R1, hR1⟩ : ∃ R1, R1 = w.heap.size + 1 := ⟨_, rfl⟩
    obtain ⟨R2, hR2⟩ : ∃ R2, R2 = w.heap.size + 1 + 1 := ⟨_, rfl⟩
    rw [← hR2] at B2 ⊢
    rw [← hR1] at B1 ⊢
    have HRR := Lib.hid (show w.heap.size < R1 ∧ R1 < R2 from by omega)
    have K0 : Hid (∀ S, Keeps S w w0) := Lib.hid k0
    clear hw0 hR1 hR2 k0
    refine (HT _).out.mono ?_
    rintro e w1 ⟨rfl, k1⟩
    have K1 : Hid (∀ S, Keeps S w w1) := Lib.hid (fun S => (K0.out S).trans (k1 S))
    have B1' := Blk.keeps B1 (k1 (fun _ => False)) (fun z => z)
    have B2' := Blk.keeps B2 (k1 (fun _ => False)) (fun z => z)
    clear k1 B1 B2
    have bC := Blk.new w1 60 #[.int .u64 (ca : Int), .int .u64 (cb : Int)]
    have HB := Lib.hid (show Blk (w1.alloc (.cells #[.int .u64 (ca : Int), .int .u64 (cb : Int)] 60)) R1 60 [.int .u64 0, .int .u64 0] ∧ Blk (w1.alloc (.cells #[.int .u64 (ca : Int), .int .u64 (cb : Int)] 60)) R2 60 [.int .u64 0, .int .u64 0] ∧ Blk (w1.alloc (.cells #[.int .u64 (ca : Int), .int .u64 (cb : Int)] 60)) w1.heap.size 60 [.int .u64 (ca : Int), .int .u64 (cb : Int)] from ⟨B1'.alloc _, B2'.alloc _, bC⟩)
    have HLT := Lib.hid (show R2 < w1.heap.size from B2'.lt)
    clear B1' B2' bC
    go_wp2_with fail
    refine (HW _).out.mono ?_
    rintro e w2 ⟨rfl, k2⟩
    have K2 : Hid (∀ S, Keeps S w w2) := Lib.hid (fun S => ((K1.out S).alloc _).trans (k2 S))
    have HB2 := Lib.hid (show Blk (w2.alloc (.cells #[.int .u64 (sa : Int), .int .u64 (sb : Int)] 60)) R1 60 [.int .u64 0, .int .u64 0] ∧ Blk (w2.alloc (.cells #[.int .u64 (sa : Int), .int .u64 (sb : Int)] 60)) R2 60 [.int .u64 0, .int .u64 0] ∧ Blk (w2.alloc (.cells #[.int .u64 (sa : Int), .int .u64 (sb : Int)] 60)) w1.heap.size 60 [.int .u64 (ca : Int), .int .u64 (cb : Int)] ∧ Blk (w2.alloc (.cells #[.int .u64 (sa : Int), .int .u64 (sb : Int)] 60)) w2.heap.size 60 [.int .u64 (sa : Int), .int .u64 (sb : Int)] from ⟨(Blk.keeps HB.out.1 (k2 (fun _ => False)) (fun z => z)).alloc _, (Blk.keeps HB.out.2.1 (k2 (fun _ => False)) (fun z => z)).alloc _, (Blk.keeps HB.out.2.2 (k2 (fun _ => False)) (fun z => z)).alloc _, Blk.new w2 _ _⟩)
    have HLT2 := Lib.hid (show w1.heap.size < w2.heap.size from Nat.lt_of_lt_of_le (by rw [World.size_alloc]; omega) (k2 (fun _ => False)).size)
    clear k2
    obtain ⟨C, hC⟩ : ∃ C, C = w1.heap.size := ⟨_, rfl⟩
    rw [← hC] at HB2 HLT HLT2 ⊢
    have c0 : (w2.alloc (.cells #[.int .u64 (sa : Int), .int .u64 (sb : Int)] 60)).cell? ⟨C, 0, none⟩ = some (.int .u64 (ca : Int)) := by rw [HB2.out.2.2.1.cell]; rfl
    have c1 : (w2.alloc (.cells #[.int .u64 (sa : Int), .int .u64 (sb : Int)] 60)).cell? ⟨C, 1, none⟩ = some (.int .u64 (cb : Int)) := by rw [HB2.out.2.2.1.cell]; rfl
    clear hC
    go_wp2_with fail
    refine (HA _).out.mono ?_
    rintro e w3 ⟨rfl, k3⟩
    have K3 : Hid (∀ S, Keeps S w w3) := Lib.hid (fun S => ((K2.out S).alloc _).trans (k3 S))
    obtain ⟨Z, hZ⟩ : ∃ Z, Z = w2.heap.size := ⟨_, rfl⟩
    have HB3 := Lib.hid (show Blk w3 R1 60 [.int .u64 0, .int .u64 0] ∧ Blk w3 R2 60 [.int .u64 0, .int .u64 0] ∧ Blk w3 C 60 [.int .u64 (ca : Int), .int .u64 (cb : Int)] ∧ Blk w3 Z 60 [.int .u64 (sa : Int), .int .u64 (sb : Int)] from ⟨Blk.keeps HB2.out.1 (k3 (fun _ => False)) (fun z => z), Blk.keeps HB2.out.2.1 (k3 (fun _ => False)) (fun z => z), Blk.keeps HB2.out.2.2.1 (k3 (fun _ => False)) (fun z => z), by rw [hZ]; exact Blk.keeps HB2.out.2.2.2 (k3 (fun _ => False)) (fun z => z)⟩)
    rw [← hZ] at HLT2 ⊢
    clear hZ k3 c0 c1
    have HCR := Lib.hid (show C ≠ R1 ∧ C ≠ R2 from by have h1 := HRR.out; have h2 := HLT.out; omega)
    have HZW := Lib.hid (show w.heap.size < Z ∧ C ≠ Z ∧ R1 ≠ Z ∧ R2 ≠ Z from by have h1 := HRR.out; have h2 := HLT.out; have h3 := HLT2.out; omega)
    have c0 : w3.cell? ⟨C, 0, none⟩ = some (.int .u64 (ca : Int)) := by rw [HB3.out.2.2.1.cell]; rfl
    have c1 : w3.cell? ⟨C, 1, none⟩ = some (.int .u64 (cb : Int)) := by rw [HB3.out.2.2.1.cell]; rfl
    have z0 : w3.cell? ⟨Z, 0, none⟩ = some (.int .u64 (sa : Int)) := by rw [HB3.out.2.2.2.cell]; rfl
    have z1 : w3.cell? ⟨Z, 1, none⟩ = some (.int .u64 (sb : Int)) := by rw [HB3.out.2.2.2.cell]; rfl
    have zf0 := HB3.out.2.2.2.frozen 0
    have zf1 := HB3.out.2.2.2.frozen 1
    go_wp2_with fail
    obtain ⟨w4, hw4⟩ : ∃ w4, w4 = w3 := ⟨_, rfl⟩
    subst hw4
    have H4 := HB3
    have K4 := K3
    clear z0 z1 zf0 zf1 c0 c1
    clear HB3 HT HW HA
    have b41 := H4.out.1
    have b42 := H4.out.2.1
    have c0 : w4.cell? ⟨C, 0, none⟩ = some (.int .u64 (ca : Int)) := by rw [H4.out.2.2.1.cell]; rfl
    have c1 : w4.cell? ⟨C, 1, none⟩ = some (.int .u64 (cb : Int)) := by rw [H4.out.2.2.1.cell]; rfl
    have z0 : w4.cell? ⟨Z, 0, none⟩ = some (.int .u64 (sa : Int)) := by rw [H4.out.2.2.2.cell]; rfl
    have z1 : w4.cell? ⟨Z, 1, none⟩ = some (.int .u64 (sb : Int)) := by rw [H4.out.2.2.2.cell]; rfl
    clear b41 b42
    have hR12 : ¬ R1 = R2 := by have := HRR.out; omega
    have hR21 : ¬ R2 = R1 := by have := HRR.out; omega
    have hZ1 : Z ≠ R1 := fun e => HZW.out.2.2.1 e.symm
    have hZ2 : Z ≠ R2 := fun e => HZW.out.2.2.2 e.symm
    have hC1 : C ≠ R1 := HCR.out.1
    have hC2 : C ≠ R2 := HCR.out.2
    go_region_held3 (fun w' => w'.cell? ⟨Z, 0, none⟩ = some (.int .u64 (sa : Int)) ∧ w'.cell? ⟨Z, 1, none⟩ = some (.int .u64 (sb : Int)) ∧ w'.cell? ⟨C, 0, none⟩ = some (.int .u64 (ca : Int)) ∧ w'.cell? ⟨C, 1, none⟩ = some (.int .u64 (cb : Int)))
      (first | exact ⟨z0, z1, c0, c1⟩ | exact ⟨y0, y1, d0, d1⟩ | exact ⟨two_cell y0 hZ1, two_cell y1 hZ1, two_cell d0 hC1, two_cell d1 hC1⟩ | exact ⟨two_cell (two_cell y0 hZ1) hZ2, two_cell (two_cell y1 hZ1) hZ2, two_cell (two_cell d0 hC1) hC2, two_cell (two_cell d1 hC1) hC2⟩)
      ((go_at_call 39; refine (HM _).out.mono ?_; rintro e w5 ⟨rfl, k5⟩; have y0 := Keeps.cell (k5 (fun _ => False)) (show w4.drew.cell? _ = _ from z0) (fun z => z); have y1 := Keeps.cell (k5 (fun _ => False)) (show w4.drew.cell? _ = _ from z1) (fun z => z); have d0 := Keeps.cell (k5 (fun _ => False)) (show w4.drew.cell? _ = _ from c0) (fun z => z); have d1 := Keeps.cell (k5 (fun _ => False)) (show w4.drew.cell? _ = _ from c1) (fun z => z); have kk5 : ∀ S, Keeps S w4 w5 := (fun S => Keeps.trans (Keeps.refl S w4).drew (k5 S)); have b51 := Blk.keeps H4.out.1 (kk5 (fun _ => False)) (fun z => z); have b52 := Blk.keeps H4.out.2.1 (kk5 (fun _ => False)) (fun z => z); have g10 : w5.cell? ⟨R1, 0, none⟩ = some (.int .u64 0) := (by rw [b51.cell]; rfl); have g11 : w5.cell? ⟨R1, 1, none⟩ = some (.int .u64 0) := (by rw [b51.cell]; rfl); have g20 : w5.cell? ⟨R2, 0, none⟩ = some (.int .u64 0) := (by rw [b52.cell]; rfl); have g21 : w5.cell? ⟨R2, 1, none⟩ = some (.int .u64 0) := (by rw [b52.cell]; rfl); have f10 := b51.frozen 0; have f11 := b51.frozen 1; have f20 := b52.frozen 0; have f21 := b52.frozen 1; have e20 := two_cell (j := 0) (k := 1) (R := R1) (u1 := .int .u64 (sa : Int)) (u2 := .int .u64 (sb : Int)) g20 hR21; have e21 := two_cell (j := 0) (k := 1) (R := R1) (u1 := .int .u64 (sa : Int)) (u2 := .int .u64 (sb : Int)) g21 hR21; have K5 : Hid (∀ S, Keeps S w w5) := Lib.hid (fun S => (K4.out S).trans (kk5 S)); have B51 := Lib.hid b51; have B52 := Lib.hid b52; clear k5 kk5 b51 b52))
    go_wp2_with fail
    have kR1 : Keeps (· = R1) w5 ((w5.setCell ⟨R1, 0, none⟩ (.int .u64 (sa : Int))).setCell ⟨R1, 1, none⟩ (.int .u64 (sb : Int))) := (Keeps.here _).trans (Keeps.here _)
    have q1 := (B51.out.put 0 (.int .u64 (sa : Int))).put 1 (.int .u64 (sb : Int))
    have q2 := Blk.keeps B52.out kR1 hR21
    have hk : ∀ S, Keeps S w ((w5.setCell ⟨R1, 0, none⟩ (.int .u64 (sa : Int))).setCell ⟨R1, 1, none⟩ (.int .u64 (sb : Int))) := fun S => ((K5.out S).setCell (.inr (Nat.le_of_lt HRR.out.1)) _).setCell (.inr (Nat.le_of_lt HRR.out.1)) _
    generalize (w5.setCell ⟨R1, 0, none⟩ (.int .u64 (sa : Int))).setCell ⟨R1, 1, none⟩ (.int .u64 (sb : Int)) = w6 at *
    have kR2 : Keeps (· = R2) w6 ((w6.setCell ⟨R2, 0, none⟩ (.int .u64 (ra : Int))).setCell ⟨R2, 1, none⟩ (.int .u64 (rb : Int))) := (Keeps.here _).trans (Keeps.here _)
    have s1 := Blk.keeps q1 kR2 hR12
    have s2 := (q2.put 0 (.int .u64 (ra : Int))).put 1 (.int .u64 (rb : Int))
    have hk2 : ∀ S, Keeps S w ((w6.setCell ⟨R2, 0, none⟩ (.int .u64 (ra : Int))).setCell ⟨R2, 1, none⟩ (.int .u64 (rb : Int))) := fun S => ((hk S).setCell (.inr (Nat.le_of_lt (Nat.lt_trans HRR.out.1 HRR.out.2))) _).setCell (.inr (Nat.le_of_lt (Nat.lt_trans HRR.out.1 HRR.out.2))) _
    generalize (w6.setCell ⟨R2, 0, none⟩ (.int .u64 (ra : Int))).setCell ⟨R2, 1, none⟩ (.int .u64 (rb : Int)) = wf at *
    have r10 : wf.cell? ⟨R1, 0, none⟩ = some (.int .u64 (sa : Int)) := by rw [s1.cell]; rfl
    have r11 : wf.cell? ⟨R1, 1, none⟩ = some (.int .u64 (sb : Int)) := by rw [s1.cell]; rfl
    have r20 : wf.cell? ⟨R2, 0, none⟩ = some (.int .u64 (ra : Int)) := by rw [s2.cell]; rfl
    have r21 : wf.cell? ⟨R2, 1, none⟩ = some (.int .u64 (rb : Int)) := by rw [s2.cell]; rfl
    refine bodyPost_ret (v := .tuple #[.agg #[.int .u64 (sa : Int), .int .u64 (sb : Int)], .agg #[.int .u64 (ra : Int), .int .u64 (rb : Int)]]) (by simp [results, Try.results34, go_sem, r10, r11, r20, r21]) rfl ⟨rfl, hk2⟩
end
end Go.Proofs.Ytbiadglhfpapaaa.bk
