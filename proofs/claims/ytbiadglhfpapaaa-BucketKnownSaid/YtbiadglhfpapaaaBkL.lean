/-
  patchbayref12's Most, Level.
-/
import Derived.Test.YtbiadglhfpapaaaBkO
set_option linter.unusedVariables false
namespace Go.Proofs.Ytbiadglhfpapaaa.bk
open Go.RowKit Go.Proofs.Ytbiadglhfpapaaa.oc Go.Proofs.Ytbiadglhfpapaaa.mz
theorem err_ok {n d b now : Nat} (he : err n d b now = 0) : May n d b ∧ now ≤ 1099511627776 := by
  unfold err at he
  by_cases h1 : May n d b
  · refine ⟨h1, ?_⟩
    simp [h1] at he
    omega
  · simp [h1] at he
section
variable (w : World) (n d b : Nat)
set_option maxRecDepth 100000 in
set_option maxHeartbeats 1000000 in
theorem most_err (now : Nat) (he : ¬ err n d b now = 0) : Calls Try.prog 19 #[bv n d b, .int .u64 (now : Int)] w fun e w' => e = .returned (.tuple #[.int .u64 0, .int .i64 (err n d b now)]) ∧ ∀ S, Keeps S w w' := by
  have HW := fun w => Lib.hid (wrong_ w n d b now)
  unfold bv at HW ⊢
  generalize err n d b now = er at *
  have q1 : (er == 0) = false := by simp; omega
  have q2 : (er != 0) = true := by simp; omega
  go_enter Try.func19, Try.ntmps19
  go_wp2_with fail
  refine (HW _).out.mono ?_
  rintro e w1 ⟨rfl, k1⟩
  have K1 : Hid (∀ S, Keeps S w w1) := Lib.hid (fun S => ((Keeps.refl S w).alloc _).trans (k1 S))
  clear k1
  go_wp2
  try rw [Exit.noGoto_ret]
  go_ret2
  exact ⟨rfl, K1.out⟩
set_option maxRecDepth 100000 in
set_option maxHeartbeats 1000000 in
theorem most_ok (now : Nat) (he : err n d b now = 0) : Calls Try.prog 19 #[bv n d b, .int .u64 (now : Int)] w fun e w' => e = .returned (.tuple #[.int .u64 ((b + now * n / d : Nat) : Int), .int .i64 0]) ∧ ∀ S, Keeps S w w' := by
  have HW := fun w => Lib.hid (wrong_ w n d b now)
  rw [he] at HW
  obtain ⟨⟨⟨n0, n1⟩, ⟨d0, d1⟩, b0, b1⟩, hnow⟩ := err_ok he
  have hp : now * n ≤ 1099511627776 * 65536 := Nat.mul_le_mul hnow n1
  have hq : now * n / d ≤ now * n := Nat.div_le_self _ _
  have HE := Lib.hid (show IntKind.u64.wrap ((b : Int) + IntKind.u64.wrap ((IntKind.u64.wrap ((now : Int) * (n : Int))).tdiv (d : Int))) = ((b + now * n / d : Nat) : Int) by
    rw [wrap_u64, wrap_u64, wrap_u64, show ((now : Int) * (n : Int)) % 18446744073709551616 = ((now * n : Nat) : Int) by rw [← Int.natCast_mul]; omega, Int.tdiv_eq_ediv_of_nonneg (Int.natCast_nonneg _), ← Int.natCast_ediv]
    clear HW
    generalize now * n / d = z at *
    omega)
  have hd1 : ¬ (d : Int) = 0 := by omega
  have hd2 : ((d : Int) == 0) = false := by simp; omega
  have hd3 : ¬ d = 0 := by omega
  unfold bv at HW ⊢
  clear he n0 n1 d0 d1 b0 b1 hp hq hnow
  go_enter Try.func19, Try.ntmps19
  go_wp2_with fail
  have B0 := Blk.new w 24 #[.int .u64 (n : Int), .int .u64 (d : Int), .int .u64 (b : Int)]
  refine (HW _).out.mono ?_
  rintro e w1 ⟨rfl, k1⟩
  have K1 : Hid (∀ S, Keeps S w w1) := Lib.hid (fun S => ((Keeps.refl S w).alloc _).trans (k1 S))
  have B1 := Blk.keeps B0 (k1 (fun _ => False)) (fun z => z)
  have x0 : w1.cell? ⟨w.heap.size, 0, none⟩ = some (.int .u64 (n : Int)) := by rw [B1.cell]; rfl
  have x1 : w1.cell? ⟨w.heap.size, 1, none⟩ = some (.int .u64 (d : Int)) := by rw [B1.cell]; rfl
  have x2 : w1.cell? ⟨w.heap.size, 2, none⟩ = some (.int .u64 (b : Int)) := by rw [B1.cell]; rfl
  clear k1 B0 B1
  go_wp2_with fail
  go_region_held3 (fun w' => w'.cell? ⟨w.heap.size, 0, none⟩ = some (.int .u64 (n : Int)) ∧ w'.cell? ⟨w.heap.size, 1, none⟩ = some (.int .u64 (d : Int)) ∧ w'.cell? ⟨w.heap.size, 2, none⟩ = some (.int .u64 (b : Int))) (first | exact ⟨x0, x1, x2⟩) ((first | fail))
  go_wp2
  try rw [Exit.noGoto_ret]
  rw [HE.out]
  go_ret2
  exact ⟨rfl, fun S => (K1.out S).drew⟩
set_option maxRecDepth 100000 in
set_option maxHeartbeats 1000000 in
theorem level_err (s now : Nat) (he : ¬ err n d b now = 0) : Calls Try.prog 15 #[bv n d b, .int .u64 (s : Int), .int .u64 (now : Int)] w fun e w' => e = .returned (.tuple #[.int .u64 0, .int .i64 (err n d b now)]) ∧ ∀ S, Keeps S w w' := by
  have HW := fun w => Lib.hid (wrong_ w n d b now)
  unfold bv at HW ⊢
  generalize err n d b now = er at *
  have q1 : (er == 0) = false := by simp; omega
  have q2 : (er != 0) = true := by simp; omega
  go_enter Try.func15, Try.ntmps15
  go_wp2_with fail
  refine (HW _).out.mono ?_
  rintro e w1 ⟨rfl, k1⟩
  have K1 : Hid (∀ S, Keeps S w w1) := Lib.hid (fun S => ((Keeps.refl S w).alloc _).trans (k1 S))
  clear k1
  go_wp2
  try rw [Exit.noGoto_ret]
  go_ret2
  exact ⟨rfl, K1.out⟩
/-- how many can be taken at once -/
def level (n d b s now : Nat) : Nat := (b * d - aOf n s now) / d
set_option maxRecDepth 100000 in
set_option maxHeartbeats 4000000 in
theorem level_ok (s now : Nat) (he : err n d b now = 0) (hs : s < 18446744073709551616) : Calls Try.prog 15 #[bv n d b, .int .u64 (s : Int), .int .u64 (now : Int)] w fun e w' => e = .returned (.tuple #[.int .u64 ((level n d b s now : Nat) : Int), .int .i64 0]) ∧ ∀ S, Keeps S w w' := by
  have HW := fun w => Lib.hid (wrong_ w n d b now)
  rw [he] at HW
  obtain ⟨⟨⟨n0, n1⟩, ⟨d0, d1⟩, b0, b1⟩, hnow⟩ := err_ok he
  have hp : now * n ≤ 1099511627776 * 65536 := Nat.mul_le_mul hnow n1
  have hbd : b * d ≤ 1048576 * 65536 := Nat.mul_le_mul b1 d1
  have HAT := fun w => Lib.hid (at_ w n d b s now n1 hs hnow)
  have HT := fun w => Lib.hid (times_ w b d (by omega) (by omega))
  have HAB := fun w => Lib.hid (above_ w (aOf n s now) (b * d))
  rw [show max s (now * n) = tOf n s now from rfl, show tOf n s now - now * n = aOf n s now from rfl] at HAT
  rcases Nat.lt_or_ge (b * d) (aOf n s now) with hlt | hlt
  · have hl : level n d b s now = 0 := by unfold level; rw [Nat.sub_eq_zero_of_le (Nat.le_of_lt hlt), Nat.zero_div]
    rw [hl]
    rw [decide_eq_true hlt] at HAB
    simp only [wd_sh] at HAT HT HAB
    unfold bv at HW HAT ⊢
    clear he hs n0 n1 d0 d1 b0 b1 hp hbd hlt hnow hl
    go_enter Try.func15, Try.ntmps15
    go_wp2_with fail
    have B0 := Blk.new w 24 #[.int .u64 (n : Int), .int .u64 (d : Int), .int .u64 (b : Int)]
    refine (HW _).out.mono ?_
    rintro e w1 ⟨rfl, k1⟩
    have K1 : Hid (∀ S, Keeps S w w1) := Lib.hid (fun S => ((Keeps.refl S w).alloc _).trans (k1 S))
    have B1 := Blk.keeps B0 (k1 (fun _ => False)) (fun z => z)
    clear k1 B0
    have x0 : w1.cell? ⟨w.heap.size, 0, none⟩ = some (.int .u64 (n : Int)) := by rw [B1.cell]; rfl
    have x1 : w1.cell? ⟨w.heap.size, 1, none⟩ = some (.int .u64 (d : Int)) := by rw [B1.cell]; rfl
    have x2 : w1.cell? ⟨w.heap.size, 2, none⟩ = some (.int .u64 (b : Int)) := by rw [B1.cell]; rfl
    go_wp2_with fail
    refine (HAT _).out.mono ?_
    rintro e w2 ⟨rfl, k2⟩
    have K2 : Hid (∀ S, Keeps S w w2) := Lib.hid (fun S => (K1.out S).trans (k2 S))
    have B2 := Blk.keeps B1 (k2 (fun _ => False)) (fun z => z)
    clear k2 B1 x0 x1 x2
    have A2 := Blk.new (w2.alloc (.cells #[.int .u64 (wh (tOf n s now) : Int), .int .u64 (wl (tOf n s now) : Int)] 60)) 60 #[.int .u64 (wh (aOf n s now) : Int), .int .u64 (wl (aOf n s now) : Int)]
    rw [World.size_alloc] at A2
    obtain ⟨w3, hw3⟩ : ∃ w3, w3 = (w2.alloc (.cells #[.int .u64 (wh (tOf n s now) : Int), .int .u64 (wl (tOf n s now) : Int)] 60)).alloc (.cells #[.int .u64 (wh (aOf n s now) : Int), .int .u64 (wl (aOf n s now) : Int)] 60) := ⟨_, rfl⟩
    have B3 := (B2.alloc (.cells #[.int .u64 (wh (tOf n s now) : Int), .int .u64 (wl (tOf n s now) : Int)] 60)).alloc (.cells #[.int .u64 (wh (aOf n s now) : Int), .int .u64 (wl (aOf n s now) : Int)] 60)
    have K3 : Hid (∀ S, Keeps S w w3) := Lib.hid (fun S => by rw [hw3]; exact ((K2.out S).alloc _).alloc _)
    rw [← hw3] at A2 B3
    have x1 : ((w2.alloc (.cells #[.int .u64 (wh (tOf n s now) : Int), .int .u64 (wl (tOf n s now) : Int)] 60)).alloc (.cells #[.int .u64 (wh (aOf n s now) : Int), .int .u64 (wl (aOf n s now) : Int)] 60)).cell? ⟨w.heap.size, 1, none⟩ = some (.int .u64 (d : Int)) := by rw [← hw3, B3.cell]; rfl
    have x2 : ((w2.alloc (.cells #[.int .u64 (wh (tOf n s now) : Int), .int .u64 (wl (tOf n s now) : Int)] 60)).alloc (.cells #[.int .u64 (wh (aOf n s now) : Int), .int .u64 (wl (aOf n s now) : Int)] 60)).cell? ⟨w.heap.size, 2, none⟩ = some (.int .u64 (b : Int)) := by rw [← hw3, B3.cell]; rfl
    obtain ⟨Z, hZ⟩ : ∃ Z, Z = w2.heap.size + 1 := ⟨_, rfl⟩
    rw [← hZ] at A2
    have H3 := Lib.hid (show Blk w3 w.heap.size 24 [.int .u64 (n : Int), .int .u64 (d : Int), .int .u64 (b : Int)] ∧ Blk w3 Z 60 [.int .u64 (wh (aOf n s now) : Int), .int .u64 (wl (aOf n s now) : Int)] from ⟨B3, A2⟩)
    have HZ := Lib.hid hZ
    have HW3 := Lib.hid hw3
    clear B2 B3 A2 hZ hw3
    go_wp2_with fail
    rw [← HW3.out, ← HZ.out]
    refine (HT _).out.mono ?_
    rintro e w4 ⟨rfl, k4⟩
    have K4 : Hid (∀ S, Keeps S w w4) := Lib.hid (fun S => (K3.out S).trans (k4 S))
    have bD := Blk.keeps H3.out.1 (k4 (fun _ => False)) (fun z => z)
    have bA := Blk.keeps H3.out.2 (k4 (fun _ => False)) (fun z => z)
    clear k4 x1 x2 HW3 HZ H3
    have hbb := Blk.new w4 60 #[.int .u64 (wh (b * d) : Int), .int .u64 (wl (b * d) : Int)]
    have a0 : (w4.alloc (.cells #[.int .u64 (wh (b * d) : Int), .int .u64 (wl (b * d) : Int)] 60)).cell? ⟨Z, 0, none⟩ = some (.int .u64 (wh (aOf n s now) : Int)) := by rw [(bA.alloc _).cell]; rfl
    have a1 : (w4.alloc (.cells #[.int .u64 (wh (b * d) : Int), .int .u64 (wl (b * d) : Int)] 60)).cell? ⟨Z, 1, none⟩ = some (.int .u64 (wl (aOf n s now) : Int)) := by rw [(bA.alloc _).cell]; rfl
    have HB4 := Lib.hid (show Blk (w4.alloc (.cells #[.int .u64 (wh (b * d) : Int), .int .u64 (wl (b * d) : Int)] 60)) w.heap.size 24 [.int .u64 (n : Int), .int .u64 (d : Int), .int .u64 (b : Int)] ∧ Blk (w4.alloc (.cells #[.int .u64 (wh (b * d) : Int), .int .u64 (wl (b * d) : Int)] 60)) Z 60 [.int .u64 (wh (aOf n s now) : Int), .int .u64 (wl (aOf n s now) : Int)] ∧ Blk (w4.alloc (.cells #[.int .u64 (wh (b * d) : Int), .int .u64 (wl (b * d) : Int)] 60)) w4.heap.size 60 [.int .u64 (wh (b * d) : Int), .int .u64 (wl (b * d) : Int)] from ⟨bD.alloc _, bA.alloc _, hbb⟩)
    clear bD bA hbb
    go_wp2_with fail
    refine (HAB _).out.mono ?_
    rintro e w5 ⟨rfl, k5⟩
    have K5 : Hid (∀ S, Keeps S w w5) := Lib.hid (fun S => ((K4.out S).alloc _).trans (k5 S))
    clear k5 a0 a1 HB4
    go_wp2
    try rw [Exit.noGoto_ret]
    go_ret2
    exact ⟨rfl, K5.out⟩
  · have hl : True := trivial
    rw [decide_eq_false (Nat.not_lt.2 hlt)] at HAB
    have HMN := fun w => Lib.hid (minus_ w (b * d) (aOf n s now) (by omega) hlt)
    have HOV := fun w => Lib.hid (over_ w (b * d - aOf n s now) d (by omega) (by omega) (by omega))
    have hlv : ((level n d b s now : Nat) : Int) = ((wl ((b * d - aOf n s now) / d) : Nat) : Int) := by
      have h1 : (b * d - aOf n s now) / d ≤ b * d := Nat.le_trans (Nat.div_le_self _ _) (Nat.sub_le _ _)
      unfold level wl
      rw [Nat.mod_eq_of_lt (by omega)]
    rw [hlv]
    simp only [wd_sh] at HAT HT HAB HMN HOV
    have hfl := field_lo
    unfold bv at HW HAT ⊢
    clear he hs n0 n1 d0 d1 b0 b1 hp hbd hlt hnow hl hlv
    go_enter Try.func15, Try.ntmps15
    go_wp2_with fail
    have B0 := Blk.new w 24 #[.int .u64 (n : Int), .int .u64 (d : Int), .int .u64 (b : Int)]
    refine (HW _).out.mono ?_
    rintro e w1 ⟨rfl, k1⟩
    have K1 : Hid (∀ S, Keeps S w w1) := Lib.hid (fun S => ((Keeps.refl S w).alloc _).trans (k1 S))
    have B1 := Blk.keeps B0 (k1 (fun _ => False)) (fun z => z)
    clear k1 B0
    have x0 : w1.cell? ⟨w.heap.size, 0, none⟩ = some (.int .u64 (n : Int)) := by rw [B1.cell]; rfl
    have x1 : w1.cell? ⟨w.heap.size, 1, none⟩ = some (.int .u64 (d : Int)) := by rw [B1.cell]; rfl
    have x2 : w1.cell? ⟨w.heap.size, 2, none⟩ = some (.int .u64 (b : Int)) := by rw [B1.cell]; rfl
    go_wp2_with fail
    refine (HAT _).out.mono ?_
    rintro e w2 ⟨rfl, k2⟩
    have K2 : Hid (∀ S, Keeps S w w2) := Lib.hid (fun S => (K1.out S).trans (k2 S))
    have B2 := Blk.keeps B1 (k2 (fun _ => False)) (fun z => z)
    clear k2 B1 x0 x1 x2
    have A2 := Blk.new (w2.alloc (.cells #[.int .u64 (wh (tOf n s now) : Int), .int .u64 (wl (tOf n s now) : Int)] 60)) 60 #[.int .u64 (wh (aOf n s now) : Int), .int .u64 (wl (aOf n s now) : Int)]
    rw [World.size_alloc] at A2
    obtain ⟨w3, hw3⟩ : ∃ w3, w3 = (w2.alloc (.cells #[.int .u64 (wh (tOf n s now) : Int), .int .u64 (wl (tOf n s now) : Int)] 60)).alloc (.cells #[.int .u64 (wh (aOf n s now) : Int), .int .u64 (wl (aOf n s now) : Int)] 60) := ⟨_, rfl⟩
    have B3 := (B2.alloc (.cells #[.int .u64 (wh (tOf n s now) : Int), .int .u64 (wl (tOf n s now) : Int)] 60)).alloc (.cells #[.int .u64 (wh (aOf n s now) : Int), .int .u64 (wl (aOf n s now) : Int)] 60)
    have K3 : Hid (∀ S, Keeps S w w3) := Lib.hid (fun S => by rw [hw3]; exact ((K2.out S).alloc _).alloc _)
    rw [← hw3] at A2 B3
    have x1 : ((w2.alloc (.cells #[.int .u64 (wh (tOf n s now) : Int), .int .u64 (wl (tOf n s now) : Int)] 60)).alloc (.cells #[.int .u64 (wh (aOf n s now) : Int), .int .u64 (wl (aOf n s now) : Int)] 60)).cell? ⟨w.heap.size, 1, none⟩ = some (.int .u64 (d : Int)) := by rw [← hw3, B3.cell]; rfl
    have x2 : ((w2.alloc (.cells #[.int .u64 (wh (tOf n s now) : Int), .int .u64 (wl (tOf n s now) : Int)] 60)).alloc (.cells #[.int .u64 (wh (aOf n s now) : Int), .int .u64 (wl (aOf n s now) : Int)] 60)).cell? ⟨w.heap.size, 2, none⟩ = some (.int .u64 (b : Int)) := by rw [← hw3, B3.cell]; rfl
    obtain ⟨Z, hZ⟩ : ∃ Z, Z = w2.heap.size + 1 := ⟨_, rfl⟩
    rw [← hZ] at A2
    have H3 := Lib.hid (show Blk w3 w.heap.size 24 [.int .u64 (n : Int), .int .u64 (d : Int), .int .u64 (b : Int)] ∧ Blk w3 Z 60 [.int .u64 (wh (aOf n s now) : Int), .int .u64 (wl (aOf n s now) : Int)] from ⟨B3, A2⟩)
    have HZ := Lib.hid hZ
    have HW3 := Lib.hid hw3
    clear B2 B3 A2 hZ hw3
    go_wp2_with fail
    rw [← HW3.out, ← HZ.out]
    refine (HT _).out.mono ?_
    rintro e w4 ⟨rfl, k4⟩
    have K4 : Hid (∀ S, Keeps S w w4) := Lib.hid (fun S => (K3.out S).trans (k4 S))
    have bD := Blk.keeps H3.out.1 (k4 (fun _ => False)) (fun z => z)
    have bA := Blk.keeps H3.out.2 (k4 (fun _ => False)) (fun z => z)
    clear k4 x1 x2 HW3 HZ H3
    have hbb := Blk.new w4 60 #[.int .u64 (wh (b * d) : Int), .int .u64 (wl (b * d) : Int)]
    have a0 : (w4.alloc (.cells #[.int .u64 (wh (b * d) : Int), .int .u64 (wl (b * d) : Int)] 60)).cell? ⟨Z, 0, none⟩ = some (.int .u64 (wh (aOf n s now) : Int)) := by rw [(bA.alloc _).cell]; rfl
    have a1 : (w4.alloc (.cells #[.int .u64 (wh (b * d) : Int), .int .u64 (wl (b * d) : Int)] 60)).cell? ⟨Z, 1, none⟩ = some (.int .u64 (wl (aOf n s now) : Int)) := by rw [(bA.alloc _).cell]; rfl
    have HB4 := Lib.hid (show Blk (w4.alloc (.cells #[.int .u64 (wh (b * d) : Int), .int .u64 (wl (b * d) : Int)] 60)) w.heap.size 24 [.int .u64 (n : Int), .int .u64 (d : Int), .int .u64 (b : Int)] ∧ Blk (w4.alloc (.cells #[.int .u64 (wh (b * d) : Int), .int .u64 (wl (b * d) : Int)] 60)) Z 60 [.int .u64 (wh (aOf n s now) : Int), .int .u64 (wl (aOf n s now) : Int)] ∧ Blk (w4.alloc (.cells #[.int .u64 (wh (b * d) : Int), .int .u64 (wl (b * d) : Int)] 60)) w4.heap.size 60 [.int .u64 (wh (b * d) : Int), .int .u64 (wl (b * d) : Int)] from ⟨bD.alloc _, bA.alloc _, hbb⟩)
    clear bD bA hbb
    go_wp2_with fail
    refine (HAB _).out.mono ?_
    rintro e w5 ⟨rfl, k5⟩
    have K5 : Hid (∀ S, Keeps S w w5) := Lib.hid (fun S => ((K4.out S).alloc _).trans (k5 S))
    have y0 := Keeps.cell (k5 (fun _ => False)) a0 (fun z => z)
    have y1 := Keeps.cell (k5 (fun _ => False)) a1 (fun z => z)
    obtain ⟨V, hV⟩ : ∃ V, V = w4.heap.size := ⟨_, rfl⟩
    rw [← hV] at HB4 ⊢
    have y2 : w5.cell? ⟨V, 0, none⟩ = some (.int .u64 (wh (b * d) : Int)) := by rw [(Blk.keeps HB4.out.2.2 (k5 (fun _ => False)) (fun z => z)).cell]; rfl
    have y3 : w5.cell? ⟨V, 1, none⟩ = some (.int .u64 (wl (b * d) : Int)) := by rw [(Blk.keeps HB4.out.2.2 (k5 (fun _ => False)) (fun z => z)).cell]; rfl
    have y4 : w5.cell? ⟨w.heap.size, 1, none⟩ = some (.int .u64 (d : Int)) := by rw [(Blk.keeps HB4.out.1 (k5 (fun _ => False)) (fun z => z)).cell]; rfl
    clear k5 a0 a1 HB4 hV
    go_wp2_with fail
    go_region_held3 (fun w' => w'.cell? ⟨Z, 0, none⟩ = some (.int .u64 (wh (aOf n s now) : Int)) ∧ w'.cell? ⟨Z, 1, none⟩ = some (.int .u64 (wl (aOf n s now) : Int)) ∧ w'.cell? ⟨V, 0, none⟩ = some (.int .u64 (wh (b * d) : Int)) ∧ w'.cell? ⟨V, 1, none⟩ = some (.int .u64 (wl (b * d) : Int)) ∧ w'.cell? ⟨w.heap.size, 1, none⟩ = some (.int .u64 (d : Int)))
      (first | exact ⟨y0, y1, y2, y3, y4⟩ | exact ⟨z0, z1, z2, z3, z4⟩ | exact ⟨u0, u1, u2, u3, u4⟩)
      ((first
        | (go_at_call 39; refine (HMN _).out.mono ?_; rintro e w6 ⟨rfl, k6⟩; have z0 := Keeps.cell (k6 (fun _ => False)) (show w5.drew.cell? _ = _ from y0) (fun z => z); have z1 := Keeps.cell (k6 (fun _ => False)) (show w5.drew.cell? _ = _ from y1) (fun z => z); have z2 := Keeps.cell (k6 (fun _ => False)) (show w5.drew.cell? _ = _ from y2) (fun z => z); have z3 := Keeps.cell (k6 (fun _ => False)) (show w5.drew.cell? _ = _ from y3) (fun z => z); have z4 := Keeps.cell (k6 (fun _ => False)) (show w5.drew.cell? _ = _ from y4) (fun z => z); have K6 : Hid (∀ S, Keeps S w w6) := Lib.hid (fun S => (K5.out S).trans (Keeps.trans (Keeps.refl S w5).drew (k6 S))); clear k6)
        | (go_at_call 38; refine (HOV _).out.mono ?_; rintro e w7 ⟨rfl, k7⟩; have u0 := Keeps.cell (k7 (fun _ => False)) z0 (fun z => z); have u1 := Keeps.cell (k7 (fun _ => False)) z1 (fun z => z); have u2 := Keeps.cell (k7 (fun _ => False)) z2 (fun z => z); have u3 := Keeps.cell (k7 (fun _ => False)) z3 (fun z => z); have u4 := Keeps.cell (k7 (fun _ => False)) z4 (fun z => z); have K7 : Hid (∀ S, Keeps S w w7) := Lib.hid (fun S => (K6.out S).trans (k7 S)); clear k7)))
    go_wp2
    try rw [Exit.noGoto_ret]
    go_ret2
    exact ⟨rfl, K7.out⟩
end
end Go.Proofs.Ytbiadglhfpapaaa.bk
