/-
  patchbayref12's Take.
-/
import Derived.Test.YtbiadglhfpapaaaBkT
set_option linter.unusedVariables false
namespace Go.Proofs.Ytbiadglhfpapaaa.bk
open Go.RowKit Go.Proofs.Ytbiadglhfpapaaa.oc Go.Proofs.Ytbiadglhfpapaaa.mz
/-- how far it stands, how far ahead -/
def tOf (n s now : Nat) : Nat := max s (now * n)
def aOf (n s now : Nat) : Nat := max s (now * n) - now * n
@[irreducible] def hiOf (x y : Nat) : Nat := x * y / 18446744073709551616
@[irreducible] def loOf (x y : Nat) : Nat := x * y % 18446744073709551616
theorem wd_hl (x y : Nat) : wd (x * y) = .agg #[.int .u64 (hiOf x y : Int), .int .u64 (loOf x y : Int)] := by unfold hiOf loOf; rfl
theorem field_lo (x y : Int) (w : World) : (Instr.field 60 (.agg #[.int .u64 x, .int .u64 y]) 1).run Try.prog w = .ok (.int .u64 y) w := by kernel_rfl
/-- is it let through? -/
def lets (n d b s now k : Nat) : Bool := decide (aOf n s now + k * d ≤ b * d)
section
variable (w : World) (n d b : Nat)
set_option maxRecDepth 100000 in
set_option maxHeartbeats 1000000 in
theorem take_err (s now k : Nat) (he : ¬ err n d b now = 0) : Calls Try.prog 13 #[bv n d b, .int .u64 (s : Int), .int .u64 (now : Int), .int .u64 (k : Int)] w fun e w' => e = .returned (.tuple #[.int .u64 0, .bool false, .int .i64 (err n d b now)]) ∧ ∀ S, Keeps S w w' := by
  have HW := fun w => Lib.hid (wrong_ w n d b now)
  unfold bv at HW ⊢
  generalize err n d b now = er at *
  have q1 : (er == 0) = false := by simp; omega
  have q2 : (er != 0) = true := by simp; omega
  go_enter Try.func13, Try.ntmps13
  go_wp2_with fail
  refine (HW _).out.mono ?_
  rintro e w1 ⟨rfl, k1⟩
  have K1 : Hid (∀ S, Keeps S w w1) := Lib.hid (fun S => ((Keeps.refl S w).alloc _).trans (k1 S))
  clear k1
  go_wp2
  try rw [Exit.noGoto_ret]
  go_ret3
  exact ⟨rfl, K1.out⟩
set_option maxRecDepth 100000 in
set_option maxHeartbeats 4000000 in
theorem take_no (s now k : Nat) (he : err n d b now = 0) (hs : s < 18446744073709551616) (hk : k < 18446744073709551616) (hl : lets n d b s now k = false) : Calls Try.prog 13 #[bv n d b, .int .u64 (s : Int), .int .u64 (now : Int), .int .u64 (k : Int)] w fun e w' => e = .returned (.tuple #[.int .u64 (s : Int), .bool false, .int .i64 0]) ∧ ∀ S, Keeps S w w' := by
  have HW := fun w => Lib.hid (wrong_ w n d b now)
  rw [he] at HW
  obtain ⟨hm, hnow⟩ : May n d b ∧ now ≤ 1099511627776 := by
    unfold err at he
    by_cases h1 : May n d b
    · refine ⟨h1, ?_⟩
      simp [h1] at he
      omega
    · simp [h1] at he
  obtain ⟨⟨n0, n1⟩, ⟨d0, d1⟩, b0, b1⟩ := hm
  have hp : now * n ≤ 1099511627776 * 65536 := Nat.mul_le_mul hnow n1
  have hkd : k * d ≤ 18446744073709551616 * 65536 := Nat.mul_le_mul (by omega) d1
  have hbd : b * d ≤ 1048576 * 65536 := Nat.mul_le_mul b1 d1
  have HAT := fun w => Lib.hid (at_ w n d b s now n1 hs hnow)
  have HT : ∀ (x y : Nat) (w : World), x < 18446744073709551616 → y < 18446744073709551616 → Calls Try.prog 37 #[.int .u64 (x : Int), .int .u64 (y : Int)] w fun e w' => e = .returned (.agg #[.int .u64 (hiOf x y : Int), .int .u64 (loOf x y : Int)]) ∧ ∀ S, Keeps S w w' := fun x y w hx hy => by have := times_ w x y hx hy; rwa [wd_hl] at this
  have hd64 : d < 18446744073709551616 := by omega
  have hb64 : b < 18446744073709551616 := by omega
  have ha : aOf n s now < 18446744073709551616 := by unfold aOf; omega
  have HPL := fun w => Lib.hid (plus_ w (aOf n s now) (k * d) (by omega))
  have HAB := fun w => Lib.hid (above_ w (aOf n s now + k * d) (b * d))
  have hlt : b * d < aOf n s now + k * d := by unfold lets at hl; simpa using hl
  rw [decide_eq_true hlt] at HAB
  rw [show max s (now * n) = tOf n s now from rfl, show tOf n s now - now * n = aOf n s now from rfl] at HAT
  obtain ⟨ta, tb, _, _, et⟩ := wd_parts (tOf n s now)
  obtain ⟨aa, ab, _, _, ea⟩ := wd_parts (aOf n s now)
  obtain ⟨pa, pb, _, _, ep⟩ := wd_parts (aOf n s now + k * d)
  rw [et, ea] at HAT
  rw [ea, wd_hl, ep] at HPL
  rw [ep, wd_hl] at HAB
  unfold bv at HW HAT ⊢
  clear he hs hl n0 n1 d0 d1 b0 b1 hp hkd hbd ha hlt et ea ep hnow
  rename_i h1 h2 h3 h4 h5 h6
  clear h1 h2 h3 h4 h5 h6
  go_enter Try.func13, Try.ntmps13
  go_wp2_with fail
  have B0 := Blk.new w 24 #[.int .u64 (n : Int), .int .u64 (d : Int), .int .u64 (b : Int)]
  refine (HW _).out.mono ?_
  rintro e w1 ⟨rfl, k1⟩
  have K1 : Hid (∀ S, Keeps S w w1) := Lib.hid (fun S => ((Keeps.refl S w).alloc _).trans (k1 S))
  have B1 := Blk.keeps B0 (k1 (fun _ => False)) (fun z => z)
  clear k1 B0
  have x0 : w1.cell? ⟨w.heap.size, 0, none⟩ = some (.int .u64 (n : Int)) := by rw [B1.cell]; rfl
  have x1 : w1.cell? ⟨w.heap.size, 1, none⟩ = some (.int .u64 (d : Int)) := by rw [B1.cell]; rfl
  have x2 : w1.cell? ⟨w.heap.size, 2, none⟩ = some (.int .u64 (b : Int)) := by rw [B1.cell]; rfl
  go_wp2_with fail
  refine (HAT _).out.mono ?_
  rintro e w2 ⟨rfl, k2⟩
  have K2 : Hid (∀ S, Keeps S w w2) := Lib.hid (fun S => (K1.out S).trans (k2 S))
  have B2 := Blk.keeps B1 (k2 (fun _ => False)) (fun z => z)
  clear k2 B1 x0 x1 x2
  go_wp2_with fail
  obtain ⟨w3, hw3⟩ : ∃ w3, w3 = (w2.alloc (.cells #[.int .u64 (ta : Int), .int .u64 (tb : Int)] 60)).alloc (.cells #[.int .u64 (aa : Int), .int .u64 (ab : Int)] 60) := ⟨_, rfl⟩
  have B3 : Blk w3 w.heap.size 24 [.int .u64 (n : Int), .int .u64 (d : Int), .int .u64 (b : Int)] := by rw [hw3]; exact (B2.alloc _).alloc _
  have A3 : Blk w3 (w2.heap.size + 1) 60 [.int .u64 (aa : Int), .int .u64 (ab : Int)] := by
    have := Blk.new (w2.alloc (.cells #[.int .u64 (ta : Int), .int .u64 (tb : Int)] 60)) 60 #[.int .u64 (aa : Int), .int .u64 (ab : Int)]
    rw [World.size_alloc] at this
    rw [hw3]; exact this
  have K3 : Hid (∀ S, Keeps S w w3) := Lib.hid (fun S => by rw [hw3]; exact ((K2.out S).alloc _).alloc _)
  rw [← hw3]
  clear hw3
  obtain ⟨Z, hZ⟩ : ∃ Z, Z = w2.heap.size + 1 := ⟨_, rfl⟩
  rw [← hZ] at A3 ⊢
  clear hZ
  have o0 : w3.cell? ⟨w.heap.size, 1, none⟩ = some (.int .u64 (d : Int)) := by rw [B3.cell]; rfl
  have o1 : w3.cell? ⟨w.heap.size, 2, none⟩ = some (.int .u64 (b : Int)) := by rw [B3.cell]; rfl
  have o2 : w3.cell? ⟨Z, 0, none⟩ = some (.int .u64 (aa : Int)) := by rw [A3.cell]; rfl
  have o3 : w3.cell? ⟨Z, 1, none⟩ = some (.int .u64 (ab : Int)) := by rw [A3.cell]; rfl
  have BA := Lib.hid B3
  clear B2 B3 A3
  go_region_held3 (fun w' => w'.cell? ⟨w.heap.size, 1, none⟩ = some (.int .u64 (d : Int)) ∧ w'.cell? ⟨w.heap.size, 2, none⟩ = some (.int .u64 (b : Int)) ∧ w'.cell? ⟨Z, 0, none⟩ = some (.int .u64 (aa : Int)) ∧ w'.cell? ⟨Z, 1, none⟩ = some (.int .u64 (ab : Int)))
    (first | exact ⟨o0, o1, o2, o3⟩ | exact ⟨p0, p1, p2, p3⟩ | exact ⟨q0, q1, q2, q3⟩ | exact ⟨r0, r1, r2, r3⟩ | exact ⟨t0, t1, t2, t3⟩)
    ((first
      | (go_at_call 37; refine Calls.mono (HT _ _ _ ?hx ?hy) ?_; (case hx => first | exact hk | exact hb64); (case hy => exact hd64); rintro e wa ⟨rfl, ka⟩; have p0 := Keeps.cell (ka (fun _ => False)) (show w3.drew.cell? _ = _ from o0) (fun z => z); have p1 := Keeps.cell (ka (fun _ => False)) (show w3.drew.cell? _ = _ from o1) (fun z => z); have p2 := Keeps.cell (ka (fun _ => False)) (show w3.drew.cell? _ = _ from o2) (fun z => z); have p3 := Keeps.cell (ka (fun _ => False)) (show w3.drew.cell? _ = _ from o3) (fun z => z); have KA : Hid (∀ S, Keeps S w3 wa) := Lib.hid (fun S => Keeps.trans (Keeps.refl S w3).drew (ka S)); clear ka)
      | (go_at_call 36; refine (HPL _).out.mono ?_; rintro e wb ⟨rfl, kb⟩; have q0 := Keeps.cell (kb (fun _ => False)) (p0) (fun z => z); have q1 := Keeps.cell (kb (fun _ => False)) (p1) (fun z => z); have q2 := Keeps.cell (kb (fun _ => False)) (p2) (fun z => z); have q3 := Keeps.cell (kb (fun _ => False)) (p3) (fun z => z); have KB : Hid (∀ S, Keeps S w3 wb) := Lib.hid (fun S => (KA.out S).trans (kb S)); clear kb)
      | (go_at_call 37; refine Calls.mono (HT _ _ _ ?hx ?hy) ?_; (case hx => exact hb64); (case hy => exact hd64); rintro e wc ⟨rfl, kc⟩; have r0 := Keeps.cell (kc (fun _ => False)) (q0) (fun z => z); have r1 := Keeps.cell (kc (fun _ => False)) (q1) (fun z => z); have r2 := Keeps.cell (kc (fun _ => False)) (q2) (fun z => z); have r3 := Keeps.cell (kc (fun _ => False)) (q3) (fun z => z); have KC : Hid (∀ S, Keeps S w3 wc) := Lib.hid (fun S => (KB.out S).trans (kc S)); clear kc)
      | (go_at_call 35; refine (HAB _).out.mono ?_; rintro e wx ⟨rfl, kx⟩; have t0 := Keeps.cell (kx (fun _ => False)) (r0) (fun z => z); have t1 := Keeps.cell (kx (fun _ => False)) (r1) (fun z => z); have t2 := Keeps.cell (kx (fun _ => False)) (r2) (fun z => z); have t3 := Keeps.cell (kx (fun _ => False)) (r3) (fun z => z); have KX : Hid (∀ S, Keeps S w3 wx) := Lib.hid (fun S => (KC.out S).trans (kx S)); clear kx)))
  go_wp2
  try rw [Exit.noGoto_ret]
  go_ret3
  exact ⟨rfl, fun S => (K3.out S).trans (KX.out S)⟩
set_option maxRecDepth 100000 in
set_option maxHeartbeats 4000000 in
theorem take_yes (s now k : Nat) (he : err n d b now = 0) (hs : s < 18446744073709551616) (hk : k < 18446744073709551616) (hl : lets n d b s now k = true) : Calls Try.prog 13 #[bv n d b, .int .u64 (s : Int), .int .u64 (now : Int), .int .u64 (k : Int)] w fun e w' => e = .returned (.tuple #[.int .u64 (((tOf n s now + k * d) % 18446744073709551616 : Nat) : Int), .bool true, .int .i64 0]) ∧ ∀ S, Keeps S w w' := by
  have HW := fun w => Lib.hid (wrong_ w n d b now)
  rw [he] at HW
  obtain ⟨hm, hnow⟩ : May n d b ∧ now ≤ 1099511627776 := by
    unfold err at he
    by_cases h1 : May n d b
    · refine ⟨h1, ?_⟩
      simp [h1] at he
      omega
    · simp [h1] at he
  obtain ⟨⟨n0, n1⟩, ⟨d0, d1⟩, b0, b1⟩ := hm
  have hp : now * n ≤ 1099511627776 * 65536 := Nat.mul_le_mul hnow n1
  have hkd : k * d ≤ 18446744073709551616 * 65536 := Nat.mul_le_mul (by omega) d1
  have hbd : b * d ≤ 1048576 * 65536 := Nat.mul_le_mul b1 d1
  have HAT := fun w => Lib.hid (at_ w n d b s now n1 hs hnow)
  have HT : ∀ (x y : Nat) (w : World), x < 18446744073709551616 → y < 18446744073709551616 → Calls Try.prog 37 #[.int .u64 (x : Int), .int .u64 (y : Int)] w fun e w' => e = .returned (.agg #[.int .u64 (hiOf x y : Int), .int .u64 (loOf x y : Int)]) ∧ ∀ S, Keeps S w w' := fun x y w hx hy => by have := times_ w x y hx hy; rwa [wd_hl] at this
  have hd64 : d < 18446744073709551616 := by omega
  have hb64 : b < 18446744073709551616 := by omega
  have ha : aOf n s now < 18446744073709551616 := by unfold aOf; omega
  have HPL := fun w => Lib.hid (plus_ w (aOf n s now) (k * d) (by omega))
  have HAB := fun w => Lib.hid (above_ w (aOf n s now + k * d) (b * d))
  have hlt : ¬ b * d < aOf n s now + k * d := by unfold lets at hl; simp at hl; omega
  rw [decide_eq_false hlt] at HAB
  have htt : tOf n s now < 340282366920938463463374607431768211456 - 18446744073709551616 * 65536 := by unfold tOf; omega
  have HP2 := fun w => Lib.hid (plus_ w (tOf n s now) (k * d) (by omega))
  rw [show max s (now * n) = tOf n s now from rfl, show tOf n s now - now * n = aOf n s now from rfl] at HAT
  obtain ⟨ta, tb, _, _, et⟩ := wd_parts (tOf n s now)
  obtain ⟨aa, ab, _, _, ea⟩ := wd_parts (aOf n s now)
  obtain ⟨pa, pb, _, _, ep⟩ := wd_parts (aOf n s now + k * d)
  obtain ⟨ua, ub, hu1, hu2, eu⟩ := wd_parts (tOf n s now + k * d)
  have hres : (tOf n s now + k * d) % 18446744073709551616 = ub := by omega
  rw [hres]
  rw [et, wd_hl, eu] at HP2
  rw [et, ea] at HAT
  rw [ea, wd_hl, ep] at HPL
  rw [ep, wd_hl] at HAB
  unfold bv at HW HAT ⊢
  clear he hs hl n0 n1 d0 d1 b0 b1 hp hkd hbd ha hlt et ea ep hnow hu1 hu2 eu hres htt
  rename_i h1 h2 h3 h4 h5 h6
  clear h1 h2 h3 h4 h5 h6
  go_enter Try.func13, Try.ntmps13
  go_wp2_with fail
  have B0 := Blk.new w 24 #[.int .u64 (n : Int), .int .u64 (d : Int), .int .u64 (b : Int)]
  refine (HW _).out.mono ?_
  rintro e w1 ⟨rfl, k1⟩
  have K1 : Hid (∀ S, Keeps S w w1) := Lib.hid (fun S => ((Keeps.refl S w).alloc _).trans (k1 S))
  have B1 := Blk.keeps B0 (k1 (fun _ => False)) (fun z => z)
  clear k1 B0
  have x0 : w1.cell? ⟨w.heap.size, 0, none⟩ = some (.int .u64 (n : Int)) := by rw [B1.cell]; rfl
  have x1 : w1.cell? ⟨w.heap.size, 1, none⟩ = some (.int .u64 (d : Int)) := by rw [B1.cell]; rfl
  have x2 : w1.cell? ⟨w.heap.size, 2, none⟩ = some (.int .u64 (b : Int)) := by rw [B1.cell]; rfl
  go_wp2_with fail
  refine (HAT _).out.mono ?_
  rintro e w2 ⟨rfl, k2⟩
  have K2 : Hid (∀ S, Keeps S w w2) := Lib.hid (fun S => (K1.out S).trans (k2 S))
  have B2 := Blk.keeps B1 (k2 (fun _ => False)) (fun z => z)
  clear k2 B1 x0 x1 x2
  go_wp2_with fail
  obtain ⟨w3, hw3⟩ : ∃ w3, w3 = (w2.alloc (.cells #[.int .u64 (ta : Int), .int .u64 (tb : Int)] 60)).alloc (.cells #[.int .u64 (aa : Int), .int .u64 (ab : Int)] 60) := ⟨_, rfl⟩
  have B3 : Blk w3 w.heap.size 24 [.int .u64 (n : Int), .int .u64 (d : Int), .int .u64 (b : Int)] := by rw [hw3]; exact (B2.alloc _).alloc _
  have T3 : Blk w3 w2.heap.size 60 [.int .u64 (ta : Int), .int .u64 (tb : Int)] := by rw [hw3]; exact (Blk.new w2 _ _).alloc _
  have A3 : Blk w3 (w2.heap.size + 1) 60 [.int .u64 (aa : Int), .int .u64 (ab : Int)] := by
    have := Blk.new (w2.alloc (.cells #[.int .u64 (ta : Int), .int .u64 (tb : Int)] 60)) 60 #[.int .u64 (aa : Int), .int .u64 (ab : Int)]
    rw [World.size_alloc] at this
    rw [hw3]; exact this
  have K3 : Hid (∀ S, Keeps S w w3) := Lib.hid (fun S => by rw [hw3]; exact ((K2.out S).alloc _).alloc _)
  rw [← hw3]
  clear hw3
  obtain ⟨Z, hZ⟩ : ∃ Z, Z = w2.heap.size + 1 := ⟨_, rfl⟩
  obtain ⟨Y, hY⟩ : ∃ Y, Y = w2.heap.size := ⟨_, rfl⟩
  rw [← hZ] at A3 ⊢
  rw [← hY] at T3 ⊢
  clear hZ hY
  have o0 : w3.cell? ⟨w.heap.size, 1, none⟩ = some (.int .u64 (d : Int)) := by rw [B3.cell]; rfl
  have o1 : w3.cell? ⟨w.heap.size, 2, none⟩ = some (.int .u64 (b : Int)) := by rw [B3.cell]; rfl
  have o2 : w3.cell? ⟨Z, 0, none⟩ = some (.int .u64 (aa : Int)) := by rw [A3.cell]; rfl
  have o3 : w3.cell? ⟨Z, 1, none⟩ = some (.int .u64 (ab : Int)) := by rw [A3.cell]; rfl
  have o4 : w3.cell? ⟨Y, 0, none⟩ = some (.int .u64 (ta : Int)) := by rw [T3.cell]; rfl
  have o5 : w3.cell? ⟨Y, 1, none⟩ = some (.int .u64 (tb : Int)) := by rw [T3.cell]; rfl
  clear B2 B3 A3 T3
  go_region_held3 (fun w' => w'.cell? ⟨w.heap.size, 1, none⟩ = some (.int .u64 (d : Int)) ∧ w'.cell? ⟨w.heap.size, 2, none⟩ = some (.int .u64 (b : Int)) ∧ w'.cell? ⟨Z, 0, none⟩ = some (.int .u64 (aa : Int)) ∧ w'.cell? ⟨Z, 1, none⟩ = some (.int .u64 (ab : Int)) ∧ w'.cell? ⟨Y, 0, none⟩ = some (.int .u64 (ta : Int)) ∧ w'.cell? ⟨Y, 1, none⟩ = some (.int .u64 (tb : Int)))
    (first | exact ⟨o0, o1, o2, o3, o4, o5⟩ | exact ⟨p0, p1, p2, p3, p4, p5⟩ | exact ⟨q0, q1, q2, q3, q4, q5⟩ | exact ⟨r0, r1, r2, r3, r4, r5⟩ | exact ⟨t0, t1, t2, t3, t4, t5⟩)
    ((first
      | (go_at_call 37; refine Calls.mono (HT _ _ _ ?hx ?hy) ?_; (case hx => first | exact hk | exact hb64); (case hy => exact hd64); rintro e wa ⟨rfl, ka⟩; have p0 := Keeps.cell (ka (fun _ => False)) (show w3.drew.cell? _ = _ from o0) (fun z => z); have p1 := Keeps.cell (ka (fun _ => False)) (show w3.drew.cell? _ = _ from o1) (fun z => z); have p2 := Keeps.cell (ka (fun _ => False)) (show w3.drew.cell? _ = _ from o2) (fun z => z); have p3 := Keeps.cell (ka (fun _ => False)) (show w3.drew.cell? _ = _ from o3) (fun z => z); have p4 := Keeps.cell (ka (fun _ => False)) (show w3.drew.cell? _ = _ from o4) (fun z => z); have p5 := Keeps.cell (ka (fun _ => False)) (show w3.drew.cell? _ = _ from o5) (fun z => z); have KA : Hid (∀ S, Keeps S w3 wa) := Lib.hid (fun S => Keeps.trans (Keeps.refl S w3).drew (ka S)); clear ka)
      | (go_at_call 36; refine (HPL _).out.mono ?_; rintro e wb ⟨rfl, kb⟩; have q0 := Keeps.cell (kb (fun _ => False)) (p0) (fun z => z); have q1 := Keeps.cell (kb (fun _ => False)) (p1) (fun z => z); have q2 := Keeps.cell (kb (fun _ => False)) (p2) (fun z => z); have q3 := Keeps.cell (kb (fun _ => False)) (p3) (fun z => z); have q4 := Keeps.cell (kb (fun _ => False)) (p4) (fun z => z); have q5 := Keeps.cell (kb (fun _ => False)) (p5) (fun z => z); have KB : Hid (∀ S, Keeps S w3 wb) := Lib.hid (fun S => (KA.out S).trans (kb S)); clear kb)
      | (go_at_call 37; refine Calls.mono (HT _ _ _ ?hx ?hy) ?_; (case hx => first | exact hk | exact hb64); (case hy => exact hd64); rintro e wc ⟨rfl, kc⟩; have r0 := Keeps.cell (kc (fun _ => False)) (q0) (fun z => z); have r1 := Keeps.cell (kc (fun _ => False)) (q1) (fun z => z); have r2 := Keeps.cell (kc (fun _ => False)) (q2) (fun z => z); have r3 := Keeps.cell (kc (fun _ => False)) (q3) (fun z => z); have r4 := Keeps.cell (kc (fun _ => False)) (q4) (fun z => z); have r5 := Keeps.cell (kc (fun _ => False)) (q5) (fun z => z); have KC : Hid (∀ S, Keeps S w3 wc) := Lib.hid (fun S => (KB.out S).trans (kc S)); clear kc)
      | (go_at_call 35; refine (HAB _).out.mono ?_; rintro e wx ⟨rfl, kx⟩; have t0 := Keeps.cell (kx (fun _ => False)) (r0) (fun z => z); have t1 := Keeps.cell (kx (fun _ => False)) (r1) (fun z => z); have t2 := Keeps.cell (kx (fun _ => False)) (r2) (fun z => z); have t3 := Keeps.cell (kx (fun _ => False)) (r3) (fun z => z); have t4 := Keeps.cell (kx (fun _ => False)) (r4) (fun z => z); have t5 := Keeps.cell (kx (fun _ => False)) (r5) (fun z => z); have KX : Hid (∀ S, Keeps S w3 wx) := Lib.hid (fun S => (KC.out S).trans (kx S)); clear kx)))
  clear KA KB KC
  have hfl := field_lo
  go_wp2_with fail
  go_region_held3 (fun w' => w'.cell? ⟨w.heap.size, 1, none⟩ = some (.int .u64 (d : Int)) ∧ w'.cell? ⟨w.heap.size, 2, none⟩ = some (.int .u64 (b : Int)) ∧ w'.cell? ⟨Z, 0, none⟩ = some (.int .u64 (aa : Int)) ∧ w'.cell? ⟨Z, 1, none⟩ = some (.int .u64 (ab : Int)) ∧ w'.cell? ⟨Y, 0, none⟩ = some (.int .u64 (ta : Int)) ∧ w'.cell? ⟨Y, 1, none⟩ = some (.int .u64 (tb : Int)))
    (first | exact ⟨t0, t1, t2, t3, t4, t5⟩ | exact ⟨v0, v1, v2, v3, v4, v5⟩ | exact ⟨z0, z1, z2, z3, z4, z5⟩)
    ((first
      | (go_at_call 37; refine Calls.mono (HT _ _ _ ?hx ?hy) ?_; (case hx => first | exact hk | exact hb64); (case hy => exact hd64); rintro e we ⟨rfl, ke⟩; have v0 := Keeps.cell (ke (fun _ => False)) (show wx.drew.cell? _ = _ from t0) (fun z => z); have v1 := Keeps.cell (ke (fun _ => False)) (show wx.drew.cell? _ = _ from t1) (fun z => z); have v2 := Keeps.cell (ke (fun _ => False)) (show wx.drew.cell? _ = _ from t2) (fun z => z); have v3 := Keeps.cell (ke (fun _ => False)) (show wx.drew.cell? _ = _ from t3) (fun z => z); have v4 := Keeps.cell (ke (fun _ => False)) (show wx.drew.cell? _ = _ from t4) (fun z => z); have v5 := Keeps.cell (ke (fun _ => False)) (show wx.drew.cell? _ = _ from t5) (fun z => z); have KE : Hid (∀ S, Keeps S wx we) := Lib.hid (fun S => Keeps.trans (Keeps.refl S wx).drew (ke S)); clear ke)
      | (go_at_call 36; refine (HP2 _).out.mono ?_; rintro e wf ⟨rfl, kf⟩; have z0 := Keeps.cell (kf (fun _ => False)) (v0) (fun z => z); have z1 := Keeps.cell (kf (fun _ => False)) (v1) (fun z => z); have z2 := Keeps.cell (kf (fun _ => False)) (v2) (fun z => z); have z3 := Keeps.cell (kf (fun _ => False)) (v3) (fun z => z); have z4 := Keeps.cell (kf (fun _ => False)) (v4) (fun z => z); have z5 := Keeps.cell (kf (fun _ => False)) (v5) (fun z => z); have KF : Hid (∀ S, Keeps S wx wf) := Lib.hid (fun S => (KE.out S).trans (kf S)); clear kf)))
  go_wp2
  try rw [Exit.noGoto_ret]
  go_ret3
  exact ⟨rfl, fun S => ((K3.out S).trans (KX.out S)).trans (KF.out S)⟩
end
end Go.Proofs.Ytbiadglhfpapaaa.bk
