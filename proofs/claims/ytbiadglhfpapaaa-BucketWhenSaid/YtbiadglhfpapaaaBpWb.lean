/-
  BucketWhen, walked: cases.
-/
import Derived.Test.YtbiadglhfpapaaaBpWh
set_option linter.unusedVariables false
namespace Go.Proofs.Ytbiadglhfpapaaa.bp
open Go.RowKit Go.Proofs.Ytbiadglhfpapaaa.oc Go.Proofs.Ytbiadglhfpapaaa.mz Go.Proofs.Ytbiadglhfpapaaa.bk
set_option maxRecDepth 100000 in
set_option maxHeartbeats 8000000 in
theorem when_z_later_some (w : World) (n d b N D B L T Z Y dd U V P' Qd R1 R2 M1 s now0 k later low lp : Nat) (hN : N = n % 65536 + 1) (hD : D = d % 65536 + 1) (hB : B = b % 1048576 + 1) (HN : Nums N D B L T Z Y dd U V P' Qd R1 R2 M1 now0 later) (hL : LevelIs N D B s T L) (hV : LevelIs N D B s U V) (hT1 : TakeIs N D B s T 1 false) (hT2 : TakeIs N D B s T M1 false) (hT3 : TakeIs N D B s T k false) (hW : WhenIs N D B s T k low true) (hTT : T ≤ 1099511627776) (hT4 : TakeIs N D B s low k true) (hT5 : TakeIs N D B s lp k false) (hlow : T < low) (hlow2 : low ≤ 1099511627776) (hlp : lp + 1 = low) (hc : L = 0) (hk0 : 0 < k) (hkL : ¬ k ≤ L) : Calls Try.prog 5 #[bv n d b, av s now0 k, .int .u64 (later : Int)] w fun e w' => e = .returned (.bool true) ∧ ∀ S, Keeps S w w' := by
  have HR := fun w => Lib.hid (right_ w n d b)
  unfold bv at HR ⊢
  unfold av
  simp only [← hN, ← hD, ← hB] at HR
  have HO := fun w => Lib.hid (works_said w)
  obtain ⟨t1, hT1⟩ := hT1
  obtain ⟨t2, hT2⟩ := hT2
  obtain ⟨t3, hT3⟩ := hT3
  obtain ⟨t4, hT4⟩ := hT4
  obtain ⟨t5, hT5⟩ := hT5
  unfold LevelIs at hL hV
  unfold WhenIs at hW
  unfold bv at hL hV hT1 hT2 hT3 hW hT4 hT5
  have GL := fun w => Lib.hid (hL w)
  have GV := fun w => Lib.hid (hV w)
  have GT1 := fun w => Lib.hid (hT1 w)
  have GT2 := fun w => Lib.hid (hT2 w)
  have GT3 := fun w => Lib.hid (hT3 w)
  have GW := fun w => Lib.hid (hW w)
  have GT4 := fun w => Lib.hid (hT4 w)
  have GT5 := fun w => Lib.hid (hT5 w)
  have F := Lib.hid HN
  have F9 := Lib.hid (show IntKind.u64.wrap (Qd : Int) = (R1 : Int) from by have h := HN.add2; rw [hc] at h; simpa using h)
  clear HN hL hV hT1 hT2 hT3 hW hN hD hB hT4 hT5
  have ql : (L : Int) < 1 := by omega
  have ql2 : ¬ (0 : Int) < (L : Int) := by omega
  have qk : (0 : Int) < (k : Int) := by omega
  have qk2 : ¬ (k : Int) ≤ (L : Int) := by omega
  have qT : (T : Int) ≤ 1099511627776 := by omega
  have qw1 : ((low : Int) == (T : Int)) = false := by simp; omega
  have qw2 : ¬ (low : Int) = (T : Int) := by omega
  have qw3 : ¬ (low : Int) < (T : Int) := by omega
  have qw4 : ¬ (1099511627776 : Int) < (low : Int) := by omega
  have qw5 : (T : Int) < (low : Int) := by omega
  have QW6 := Lib.hid (show IntKind.u64.wrap ((low : Int) - 1) = (lp : Int) from by rw [IntKind.wrap_u64]; omega)
  clear hc hk0 hkL hlow hlow2 hlp hTT
  have q12 : ¬ (B : Int) < (L : Int) := by
    have := F.out.le1; omega
  obtain ⟨w0, hw0⟩ : ∃ x, x = (w.alloc (.cells #[.int .u64 (n : Int), .int .u64 (d : Int), .int .u64 (b : Int)] 24)).alloc (.cells #[.int .u64 (s : Int), .int .u64 (now0 : Int), .int .u64 (k : Int)] 26) := ⟨_, rfl⟩
  have B2 := (Blk.new w 24 #[.int .u64 (n : Int), .int .u64 (d : Int), .int .u64 (b : Int)]).alloc (.cells #[.int .u64 (s : Int), .int .u64 (now0 : Int), .int .u64 (k : Int)] 26)
  have B3 := Blk.new (w.alloc (.cells #[.int .u64 (n : Int), .int .u64 (d : Int), .int .u64 (b : Int)] 24)) 26 #[.int .u64 (s : Int), .int .u64 (now0 : Int), .int .u64 (k : Int)]
  rw [World.size_alloc] at B3
  rw [← hw0] at B2 B3
  have K0 : Hid (∀ S, Keeps S w w0) := Lib.hid (fun S => by rw [hw0]; exact ((Keeps.refl S w).alloc _).alloc _)
  have V0 := Lib.hid (show Two w0 w.heap.size (w.heap.size + 1) n d b s now0 k from ⟨B2, B3⟩)
  clear B2 B3
  obtain ⟨Q, hQ⟩ : ∃ x, x = w.heap.size + 1 := ⟨_, rfl⟩
  rw [← hQ] at V0
  have HQ := Lib.hid (show Q ≠ w.heap.size from by omega)
  have HQ0 := Lib.hid hQ
  clear hQ
  go_enter Try.func5, Try.ntmps5
  go_wp2_with fail
  rw [← hw0]
  rw [← HQ0.out]
  clear hw0
  refine (HR _).out.mono ?_
  rintro e w1 ⟨rfl, k1⟩
  have v1 := V0.out.keeps k1
  have y0 := v1.c0
  have y1 := v1.c1
  have y2 := v1.c2
  have g0 := v1.1.frozen 0
  have g1 := v1.1.frozen 1
  have g2 := v1.1.frozen 2
  have KW := Lib.hid (show (∀ S, Keeps S w w1) ∧ w.heap.size < w1.heap.size from ⟨fun S => (K0.out S).trans (k1 S), v1.1.lt⟩)
  have B1 := Lib.hid v1
  obtain ⟨w2, hw2⟩ : ∃ x, x = ((w1.setCell ⟨w.heap.size, 0, none⟩ (.int .u64 (N : Int))).setCell ⟨w.heap.size, 1, none⟩ (.int .u64 (D : Int))).setCell ⟨w.heap.size, 2, none⟩ (.int .u64 (B : Int)) := ⟨_, rfl⟩
  have V2 := Lib.hid (show Two w2 w.heap.size Q N D B s now0 k from by
    refine ⟨by rw [hw2]; simpa using ((B1.out.1.put 0 (.int .u64 (N : Int))).put 1 (.int .u64 (D : Int))).put 2 (.int .u64 (B : Int)), ?_⟩
    rw [hw2]
    exact Blk.keeps B1.out.2 (((Keeps.here (b := w.heap.size) _).trans (Keeps.here _)).trans (Keeps.here _)) HQ.out)
  have K2 : Hid (∀ S, Keeps S w w2) := Lib.hid (fun S => by rw [hw2]; exact ((((KW.out.1 S).setCell (.inr (Nat.le_refl _)) _).setCell (.inr (Nat.le_refl _)) _).setCell (.inr (Nat.le_refl _)) _))
  have E2 : Hid (∀ a, (((a.setCell ⟨w.heap.size, 0, none⟩ (.int .u64 (N : Int))).setCell ⟨w.heap.size, 1, none⟩ (.int .u64 (D : Int))).setCell ⟨w.heap.size, 2, none⟩ (.int .u64 (B : Int))) = w2 ∨ a ≠ w1) := Lib.hid (fun a => by
    by_cases q : a = w1
    · left; rw [q, hw2]
    · right; exact q)
  have x4' : (((w1.setCell ⟨w.heap.size, 0, none⟩ (.int .u64 (N : Int))).setCell ⟨w.heap.size, 1, none⟩ (.int .u64 (D : Int))).setCell ⟨w.heap.size, 2, none⟩ (.int .u64 (B : Int))).cell? ⟨Q, 1, none⟩ = some (.int .u64 (now0 : Int)) := by rw [← hw2]; exact V2.out.d1
  have x3' : (((w1.setCell ⟨w.heap.size, 0, none⟩ (.int .u64 (N : Int))).setCell ⟨w.heap.size, 1, none⟩ (.int .u64 (D : Int))).setCell ⟨w.heap.size, 2, none⟩ (.int .u64 (B : Int))).cell? ⟨Q, 0, none⟩ = some (.int .u64 (s : Int)) := by rw [← hw2]; exact V2.out.d0
  have HW2 := Lib.hid hw2
  clear k1 v1 V0 K0 hw2 HR E2
  have f1 := F.out.mod1
  go_wp2_with fail
  rw [← HW2.out]
  try rw [f1]
  clear f1
  clear y0 y1 y2 g0 g1 g2 KW B1 x4' x3' HW2
  refine (GL _).out.mono ?_
  rintro e w3 ⟨rfl, k3⟩
  have V3 := Lib.hid (V2.out.keeps k3)
  have K3 : Hid (∀ S, Keeps S w w3) := Lib.hid (fun S => (K2.out S).trans (k3 S))
  clear V2 K2 k3 GL
  have x0 := V3.out.c0
  have x1 := V3.out.c1
  have x2 := V3.out.c2
  have x3 := V3.out.d0
  have x4 := V3.out.d1
  have x5 := V3.out.d2
  go_wp2_with fail
  refine (GT1 _).out.mono ?_
  rintro e w4 ⟨rfl, k4⟩
  have V4 := Lib.hid (V3.out.keeps k4)
  have K4 : Hid (∀ S, Keeps S w w4) := Lib.hid (fun S => (K3.out S).trans (k4 S))
  clear x0 x1 x2 x3 x4 x5 V3 K3 k4
  have x0 := V4.out.c0
  have x1 := V4.out.c1
  have x2 := V4.out.c2
  have x3 := V4.out.d0
  have x4 := V4.out.d1
  have x5 := V4.out.d2
  have f11 := F.out.add4
  go_wp2_with fail
  clear f11
  refine (GT2 _).out.mono ?_
  rintro e w5 ⟨rfl, k5⟩
  have V5 := Lib.hid (V4.out.keeps k5)
  have K5 : Hid (∀ S, Keeps S w w5) := Lib.hid (fun S => (K4.out S).trans (k5 S))
  clear x0 x1 x2 x3 x4 x5 V4 K4 k5
  have x0 := V5.out.c0
  have x1 := V5.out.c1
  have x2 := V5.out.c2
  have x3 := V5.out.d0
  have x4 := V5.out.d1
  have x5 := V5.out.d2
  go_wp2_with fail
  refine (GT3 _).out.mono ?_
  rintro e w6 ⟨rfl, k6⟩
  have V6 := Lib.hid (V5.out.keeps k6)
  have K6 : Hid (∀ S, Keeps S w w6) := Lib.hid (fun S => (K5.out S).trans (k6 S))
  clear x0 x1 x2 x3 x4 x5 V5 K5 k6
  have x0 := V6.out.c0
  have x1 := V6.out.c1
  have x2 := V6.out.c2
  have x3 := V6.out.d0
  have x4 := V6.out.d1
  have x5 := V6.out.d2
  go_wp2_with fail
  refine (GW _).out.mono ?_
  rintro e w7 ⟨rfl, k7⟩
  have V7 := Lib.hid (V6.out.keeps k7)
  have K7 : Hid (∀ S, Keeps S w w7) := Lib.hid (fun S => (K6.out S).trans (k7 S))
  clear x0 x1 x2 x3 x4 x5 V6 K6 k7
  have x0 := V7.out.c0
  have x1 := V7.out.c1
  have x2 := V7.out.c2
  have x3 := V7.out.d0
  have x4 := V7.out.d1
  have x5 := V7.out.d2
  go_wp2_with fail
  refine (GT4 _).out.mono ?_
  rintro e w8 ⟨rfl, k8⟩
  have V8 := Lib.hid (V7.out.keeps k8)
  have K8 : Hid (∀ S, Keeps S w w8) := Lib.hid (fun S => (K7.out S).trans (k8 S))
  clear x0 x1 x2 x3 x4 x5 V7 K7 k8
  have x0 := V8.out.c0
  have x1 := V8.out.c1
  have x2 := V8.out.c2
  have x3 := V8.out.d0
  have x4 := V8.out.d1
  have x5 := V8.out.d2
  have qw6 := QW6.out
  go_wp2_with fail
  clear qw6
  refine (GT5 _).out.mono ?_
  rintro e w9 ⟨rfl, k9⟩
  have V9 := Lib.hid (V8.out.keeps k9)
  have K9 : Hid (∀ S, Keeps S w w9) := Lib.hid (fun S => (K8.out S).trans (k9 S))
  clear x0 x1 x2 x3 x4 x5 V8 K8 k9
  have x0 := V9.out.c0
  have x1 := V9.out.c1
  have x2 := V9.out.c2
  have x3 := V9.out.d0
  have x4 := V9.out.d1
  have x5 := V9.out.d2
  have f4 := F.out.min2
  have f5 := F.out.add1
  have g5 := F.out.add5
  go_wp2_with fail
  try simp only [f4, f5, g5]
  clear f4
  clear f5
  clear g5
  refine (GV _).out.mono ?_
  rintro e w10 ⟨rfl, k10⟩
  have V10 := Lib.hid (V9.out.keeps k10)
  have K10 : Hid (∀ S, Keeps S w w10) := Lib.hid (fun S => (K9.out S).trans (k10 S))
  clear x0 x1 x2 x3 x4 x5 V9 K9 k10
  have x0 := V10.out.c0
  have x1 := V10.out.c1
  have x2 := V10.out.c2
  have x3 := V10.out.d0
  have x4 := V10.out.d1
  have x5 := V10.out.d2
  have f6 := F.out.mul1
  have f7 := F.out.div1
  have f8 := F.out.div2
  have f9 := F9.out
  have f10 := F.out.add3
  have f13 := F.out.le2
  have f14 := F.out.le3
  have f15 := F.out.d0
  have f16 := F.out.d1
  have f17 := F.out.d2
  go_wp2_with fail
  clear f6 f7 f8 f9 f10 f13 f14 f15 f16 f17
  refine (HO _).out.mono ?_
  rintro e w99 ⟨rfl, k99⟩
  have K99 : Hid (∀ S, Keeps S w w99) := Lib.hid (fun S => (K10.out S).trans (k99 S))
  clear k99
  go_wp2
  try rw [Exit.noGoto_ret]
  go_ret
  exact ⟨rfl, K99.out⟩
set_option maxRecDepth 100000 in
set_option maxHeartbeats 8000000 in
theorem when_z_none_some (w : World) (n d b N D B L T Z Y dd U V P' Qd R1 R2 M1 s now0 k later low lp : Nat) (hN : N = n % 65536 + 1) (hD : D = d % 65536 + 1) (hB : B = b % 1048576 + 1) (HN : Nums N D B L T Z Y dd U V P' Qd R1 R2 M1 now0 later) (hL : LevelIs N D B s T L) (hV : LevelIs N D B s U V) (hT1 : TakeIs N D B s T 1 false) (hT2 : TakeIs N D B s T M1 false) (hT3 : TakeIs N D B s T k false) (hW : WhenIs N D B s T k 0 false) (hTT : T ≤ 1099511627776) (hc : L = 0) (hk0 : 0 < k) (hkL : ¬ k ≤ L) : Calls Try.prog 5 #[bv n d b, av s now0 k, .int .u64 (later : Int)] w fun e w' => e = .returned (.bool true) ∧ ∀ S, Keeps S w w' := by
  have HR := fun w => Lib.hid (right_ w n d b)
  unfold bv at HR ⊢
  unfold av
  simp only [← hN, ← hD, ← hB] at HR
  have HO := fun w => Lib.hid (works_said w)
  obtain ⟨t1, hT1⟩ := hT1
  obtain ⟨t2, hT2⟩ := hT2
  obtain ⟨t3, hT3⟩ := hT3
  unfold LevelIs at hL hV
  unfold WhenIs at hW
  unfold bv at hL hV hT1 hT2 hT3 hW
  have GL := fun w => Lib.hid (hL w)
  have GV := fun w => Lib.hid (hV w)
  have GT1 := fun w => Lib.hid (hT1 w)
  have GT2 := fun w => Lib.hid (hT2 w)
  have GT3 := fun w => Lib.hid (hT3 w)
  have GW := fun w => Lib.hid (hW w)
  have F := Lib.hid HN
  have F9 := Lib.hid (show IntKind.u64.wrap (Qd : Int) = (R1 : Int) from by have h := HN.add2; rw [hc] at h; simpa using h)
  clear HN hL hV hT1 hT2 hT3 hW hN hD hB
  have ql : (L : Int) < 1 := by omega
  have ql2 : ¬ (0 : Int) < (L : Int) := by omega
  have qk : (0 : Int) < (k : Int) := by omega
  have qk2 : ¬ (k : Int) ≤ (L : Int) := by omega
  have qT : (T : Int) ≤ 1099511627776 := by omega
  clear hc hk0 hkL hTT
  have q12 : ¬ (B : Int) < (L : Int) := by
    have := F.out.le1; omega
  obtain ⟨w0, hw0⟩ : ∃ x, x = (w.alloc (.cells #[.int .u64 (n : Int), .int .u64 (d : Int), .int .u64 (b : Int)] 24)).alloc (.cells #[.int .u64 (s : Int), .int .u64 (now0 : Int), .int .u64 (k : Int)] 26) := ⟨_, rfl⟩
  have B2 := (Blk.new w 24 #[.int .u64 (n : Int), .int .u64 (d : Int), .int .u64 (b : Int)]).alloc (.cells #[.int .u64 (s : Int), .int .u64 (now0 : Int), .int .u64 (k : Int)] 26)
  have B3 := Blk.new (w.alloc (.cells #[.int .u64 (n : Int), .int .u64 (d : Int), .int .u64 (b : Int)] 24)) 26 #[.int .u64 (s : Int), .int .u64 (now0 : Int), .int .u64 (k : Int)]
  rw [World.size_alloc] at B3
  rw [← hw0] at B2 B3
  have K0 : Hid (∀ S, Keeps S w w0) := Lib.hid (fun S => by rw [hw0]; exact ((Keeps.refl S w).alloc _).alloc _)
  have V0 := Lib.hid (show Two w0 w.heap.size (w.heap.size + 1) n d b s now0 k from ⟨B2, B3⟩)
  clear B2 B3
  obtain ⟨Q, hQ⟩ : ∃ x, x = w.heap.size + 1 := ⟨_, rfl⟩
  rw [← hQ] at V0
  have HQ := Lib.hid (show Q ≠ w.heap.size from by omega)
  have HQ0 := Lib.hid hQ
  clear hQ
  go_enter Try.func5, Try.ntmps5
  go_wp2_with fail
  rw [← hw0]
  rw [← HQ0.out]
  clear hw0
  refine (HR _).out.mono ?_
  rintro e w1 ⟨rfl, k1⟩
  have v1 := V0.out.keeps k1
  have y0 := v1.c0
  have y1 := v1.c1
  have y2 := v1.c2
  have g0 := v1.1.frozen 0
  have g1 := v1.1.frozen 1
  have g2 := v1.1.frozen 2
  have KW := Lib.hid (show (∀ S, Keeps S w w1) ∧ w.heap.size < w1.heap.size from ⟨fun S => (K0.out S).trans (k1 S), v1.1.lt⟩)
  have B1 := Lib.hid v1
  obtain ⟨w2, hw2⟩ : ∃ x, x = ((w1.setCell ⟨w.heap.size, 0, none⟩ (.int .u64 (N : Int))).setCell ⟨w.heap.size, 1, none⟩ (.int .u64 (D : Int))).setCell ⟨w.heap.size, 2, none⟩ (.int .u64 (B : Int)) := ⟨_, rfl⟩
  have V2 := Lib.hid (show Two w2 w.heap.size Q N D B s now0 k from by
    refine ⟨by rw [hw2]; simpa using ((B1.out.1.put 0 (.int .u64 (N : Int))).put 1 (.int .u64 (D : Int))).put 2 (.int .u64 (B : Int)), ?_⟩
    rw [hw2]
    exact Blk.keeps B1.out.2 (((Keeps.here (b := w.heap.size) _).trans (Keeps.here _)).trans (Keeps.here _)) HQ.out)
  have K2 : Hid (∀ S, Keeps S w w2) := Lib.hid (fun S => by rw [hw2]; exact ((((KW.out.1 S).setCell (.inr (Nat.le_refl _)) _).setCell (.inr (Nat.le_refl _)) _).setCell (.inr (Nat.le_refl _)) _))
  have E2 : Hid (∀ a, (((a.setCell ⟨w.heap.size, 0, none⟩ (.int .u64 (N : Int))).setCell ⟨w.heap.size, 1, none⟩ (.int .u64 (D : Int))).setCell ⟨w.heap.size, 2, none⟩ (.int .u64 (B : Int))) = w2 ∨ a ≠ w1) := Lib.hid (fun a => by
    by_cases q : a = w1
    · left; rw [q, hw2]
    · right; exact q)
  have x4' : (((w1.setCell ⟨w.heap.size, 0, none⟩ (.int .u64 (N : Int))).setCell ⟨w.heap.size, 1, none⟩ (.int .u64 (D : Int))).setCell ⟨w.heap.size, 2, none⟩ (.int .u64 (B : Int))).cell? ⟨Q, 1, none⟩ = some (.int .u64 (now0 : Int)) := by rw [← hw2]; exact V2.out.d1
  have x3' : (((w1.setCell ⟨w.heap.size, 0, none⟩ (.int .u64 (N : Int))).setCell ⟨w.heap.size, 1, none⟩ (.int .u64 (D : Int))).setCell ⟨w.heap.size, 2, none⟩ (.int .u64 (B : Int))).cell? ⟨Q, 0, none⟩ = some (.int .u64 (s : Int)) := by rw [← hw2]; exact V2.out.d0
  have HW2 := Lib.hid hw2
  clear k1 v1 V0 K0 hw2 HR E2
  have f1 := F.out.mod1
  go_wp2_with fail
  rw [← HW2.out]
  try rw [f1]
  clear f1
  clear y0 y1 y2 g0 g1 g2 KW B1 x4' x3' HW2
  refine (GL _).out.mono ?_
  rintro e w3 ⟨rfl, k3⟩
  have V3 := Lib.hid (V2.out.keeps k3)
  have K3 : Hid (∀ S, Keeps S w w3) := Lib.hid (fun S => (K2.out S).trans (k3 S))
  clear V2 K2 k3 GL
  have x0 := V3.out.c0
  have x1 := V3.out.c1
  have x2 := V3.out.c2
  have x3 := V3.out.d0
  have x4 := V3.out.d1
  have x5 := V3.out.d2
  go_wp2_with fail
  refine (GT1 _).out.mono ?_
  rintro e w4 ⟨rfl, k4⟩
  have V4 := Lib.hid (V3.out.keeps k4)
  have K4 : Hid (∀ S, Keeps S w w4) := Lib.hid (fun S => (K3.out S).trans (k4 S))
  clear x0 x1 x2 x3 x4 x5 V3 K3 k4
  have x0 := V4.out.c0
  have x1 := V4.out.c1
  have x2 := V4.out.c2
  have x3 := V4.out.d0
  have x4 := V4.out.d1
  have x5 := V4.out.d2
  have f11 := F.out.add4
  go_wp2_with fail
  clear f11
  refine (GT2 _).out.mono ?_
  rintro e w5 ⟨rfl, k5⟩
  have V5 := Lib.hid (V4.out.keeps k5)
  have K5 : Hid (∀ S, Keeps S w w5) := Lib.hid (fun S => (K4.out S).trans (k5 S))
  clear x0 x1 x2 x3 x4 x5 V4 K4 k5
  have x0 := V5.out.c0
  have x1 := V5.out.c1
  have x2 := V5.out.c2
  have x3 := V5.out.d0
  have x4 := V5.out.d1
  have x5 := V5.out.d2
  go_wp2_with fail
  refine (GT3 _).out.mono ?_
  rintro e w6 ⟨rfl, k6⟩
  have V6 := Lib.hid (V5.out.keeps k6)
  have K6 : Hid (∀ S, Keeps S w w6) := Lib.hid (fun S => (K5.out S).trans (k6 S))
  clear x0 x1 x2 x3 x4 x5 V5 K5 k6
  have x0 := V6.out.c0
  have x1 := V6.out.c1
  have x2 := V6.out.c2
  have x3 := V6.out.d0
  have x4 := V6.out.d1
  have x5 := V6.out.d2
  go_wp2_with fail
  refine (GW _).out.mono ?_
  rintro e w7 ⟨rfl, k7⟩
  have V7 := Lib.hid (V6.out.keeps k7)
  have K7 : Hid (∀ S, Keeps S w w7) := Lib.hid (fun S => (K6.out S).trans (k7 S))
  clear x0 x1 x2 x3 x4 x5 V6 K6 k7
  have x0 := V7.out.c0
  have x1 := V7.out.c1
  have x2 := V7.out.c2
  have x3 := V7.out.d0
  have x4 := V7.out.d1
  have x5 := V7.out.d2
  have f4 := F.out.min2
  have f5 := F.out.add1
  have g5 := F.out.add5
  go_wp2_with fail
  try simp only [f4, f5, g5]
  clear f4
  clear f5
  clear g5
  refine (GV _).out.mono ?_
  rintro e w8 ⟨rfl, k8⟩
  have V8 := Lib.hid (V7.out.keeps k8)
  have K8 : Hid (∀ S, Keeps S w w8) := Lib.hid (fun S => (K7.out S).trans (k8 S))
  clear x0 x1 x2 x3 x4 x5 V7 K7 k8
  have x0 := V8.out.c0
  have x1 := V8.out.c1
  have x2 := V8.out.c2
  have x3 := V8.out.d0
  have x4 := V8.out.d1
  have x5 := V8.out.d2
  have f6 := F.out.mul1
  have f7 := F.out.div1
  have f8 := F.out.div2
  have f9 := F9.out
  have f10 := F.out.add3
  have f13 := F.out.le2
  have f14 := F.out.le3
  have f15 := F.out.d0
  have f16 := F.out.d1
  have f17 := F.out.d2
  go_wp2_with fail
  clear f6 f7 f8 f9 f10 f13 f14 f15 f16 f17
  refine (HO _).out.mono ?_
  rintro e w99 ⟨rfl, k99⟩
  have K99 : Hid (∀ S, Keeps S w w99) := Lib.hid (fun S => (K8.out S).trans (k99 S))
  clear k99
  go_wp2
  try rw [Exit.noGoto_ret]
  go_ret
  exact ⟨rfl, K99.out⟩
set_option maxRecDepth 100000 in
set_option maxHeartbeats 8000000 in
theorem when_p_now_zero (w : World) (n d b N D B L T Z Y dd U V P' Qd R1 R2 M1 s now0 k later low lp : Nat) (hN : N = n % 65536 + 1) (hD : D = d % 65536 + 1) (hB : B = b % 1048576 + 1) (HN : Nums N D B L T Z Y dd U V P' Qd R1 R2 M1 now0 later) (hL : LevelIs N D B s T L) (hV : LevelIs N D B s U V) (hT1 : TakeIs N D B s T L true) (hT2 : TakeIs N D B s T M1 false) (hT3 : TakeIs N D B s T k true) (hW : WhenIs N D B s T k T true) (hTT : T ≤ 1099511627776) (hc : 0 < L) (hk0 : k = 0) : Calls Try.prog 5 #[bv n d b, av s now0 k, .int .u64 (later : Int)] w fun e w' => e = .returned (.bool true) ∧ ∀ S, Keeps S w w' := by
  have HR := fun w => Lib.hid (right_ w n d b)
  unfold bv at HR ⊢
  unfold av
  simp only [← hN, ← hD, ← hB] at HR
  have HO := fun w => Lib.hid (works_said w)
  obtain ⟨t1, hT1⟩ := hT1
  obtain ⟨t2, hT2⟩ := hT2
  obtain ⟨t3, hT3⟩ := hT3
  unfold LevelIs at hL hV
  unfold WhenIs at hW
  unfold bv at hL hV hT1 hT2 hT3 hW
  have GL := fun w => Lib.hid (hL w)
  have GV := fun w => Lib.hid (hV w)
  have GT1 := fun w => Lib.hid (hT1 w)
  have GT2 := fun w => Lib.hid (hT2 w)
  have GT3 := fun w => Lib.hid (hT3 w)
  have GW := fun w => Lib.hid (hW w)
  have F := Lib.hid HN
  clear HN hL hV hT1 hT2 hT3 hW hN hD hB
  have ql : ¬ (L : Int) < 1 := by omega
  have ql2 : (0 : Int) < (L : Int) := by omega
  have qk : ¬ (0 : Int) < (k : Int) := by omega
  have qT : (T : Int) ≤ 1099511627776 := by omega
  clear hc hk0 hTT
  have q12 : ¬ (B : Int) < (L : Int) := by
    have := F.out.le1; omega
  obtain ⟨w0, hw0⟩ : ∃ x, x = (w.alloc (.cells #[.int .u64 (n : Int), .int .u64 (d : Int), .int .u64 (b : Int)] 24)).alloc (.cells #[.int .u64 (s : Int), .int .u64 (now0 : Int), .int .u64 (k : Int)] 26) := ⟨_, rfl⟩
  have B2 := (Blk.new w 24 #[.int .u64 (n : Int), .int .u64 (d : Int), .int .u64 (b : Int)]).alloc (.cells #[.int .u64 (s : Int), .int .u64 (now0 : Int), .int .u64 (k : Int)] 26)
  have B3 := Blk.new (w.alloc (.cells #[.int .u64 (n : Int), .int .u64 (d : Int), .int .u64 (b : Int)] 24)) 26 #[.int .u64 (s : Int), .int .u64 (now0 : Int), .int .u64 (k : Int)]
  rw [World.size_alloc] at B3
  rw [← hw0] at B2 B3
  have K0 : Hid (∀ S, Keeps S w w0) := Lib.hid (fun S => by rw [hw0]; exact ((Keeps.refl S w).alloc _).alloc _)
  have V0 := Lib.hid (show Two w0 w.heap.size (w.heap.size + 1) n d b s now0 k from ⟨B2, B3⟩)
  clear B2 B3
  obtain ⟨Q, hQ⟩ : ∃ x, x = w.heap.size + 1 := ⟨_, rfl⟩
  rw [← hQ] at V0
  have HQ := Lib.hid (show Q ≠ w.heap.size from by omega)
  have HQ0 := Lib.hid hQ
  clear hQ
  go_enter Try.func5, Try.ntmps5
  go_wp2_with fail
  rw [← hw0]
  rw [← HQ0.out]
  clear hw0
  refine (HR _).out.mono ?_
  rintro e w1 ⟨rfl, k1⟩
  have v1 := V0.out.keeps k1
  have y0 := v1.c0
  have y1 := v1.c1
  have y2 := v1.c2
  have g0 := v1.1.frozen 0
  have g1 := v1.1.frozen 1
  have g2 := v1.1.frozen 2
  have KW := Lib.hid (show (∀ S, Keeps S w w1) ∧ w.heap.size < w1.heap.size from ⟨fun S => (K0.out S).trans (k1 S), v1.1.lt⟩)
  have B1 := Lib.hid v1
  obtain ⟨w2, hw2⟩ : ∃ x, x = ((w1.setCell ⟨w.heap.size, 0, none⟩ (.int .u64 (N : Int))).setCell ⟨w.heap.size, 1, none⟩ (.int .u64 (D : Int))).setCell ⟨w.heap.size, 2, none⟩ (.int .u64 (B : Int)) := ⟨_, rfl⟩
  have V2 := Lib.hid (show Two w2 w.heap.size Q N D B s now0 k from by
    refine ⟨by rw [hw2]; simpa using ((B1.out.1.put 0 (.int .u64 (N : Int))).put 1 (.int .u64 (D : Int))).put 2 (.int .u64 (B : Int)), ?_⟩
    rw [hw2]
    exact Blk.keeps B1.out.2 (((Keeps.here (b := w.heap.size) _).trans (Keeps.here _)).trans (Keeps.here _)) HQ.out)
  have K2 : Hid (∀ S, Keeps S w w2) := Lib.hid (fun S => by rw [hw2]; exact ((((KW.out.1 S).setCell (.inr (Nat.le_refl _)) _).setCell (.inr (Nat.le_refl _)) _).setCell (.inr (Nat.le_refl _)) _))
  have E2 : Hid (∀ a, (((a.setCell ⟨w.heap.size, 0, none⟩ (.int .u64 (N : Int))).setCell ⟨w.heap.size, 1, none⟩ (.int .u64 (D : Int))).setCell ⟨w.heap.size, 2, none⟩ (.int .u64 (B : Int))) = w2 ∨ a ≠ w1) := Lib.hid (fun a => by
    by_cases q : a = w1
    · left; rw [q, hw2]
    · right; exact q)
  have x4' : (((w1.setCell ⟨w.heap.size, 0, none⟩ (.int .u64 (N : Int))).setCell ⟨w.heap.size, 1, none⟩ (.int .u64 (D : Int))).setCell ⟨w.heap.size, 2, none⟩ (.int .u64 (B : Int))).cell? ⟨Q, 1, none⟩ = some (.int .u64 (now0 : Int)) := by rw [← hw2]; exact V2.out.d1
  have x3' : (((w1.setCell ⟨w.heap.size, 0, none⟩ (.int .u64 (N : Int))).setCell ⟨w.heap.size, 1, none⟩ (.int .u64 (D : Int))).setCell ⟨w.heap.size, 2, none⟩ (.int .u64 (B : Int))).cell? ⟨Q, 0, none⟩ = some (.int .u64 (s : Int)) := by rw [← hw2]; exact V2.out.d0
  have HW2 := Lib.hid hw2
  clear k1 v1 V0 K0 hw2 HR E2
  have f1 := F.out.mod1
  go_wp2_with fail
  rw [← HW2.out]
  try rw [f1]
  clear f1
  clear y0 y1 y2 g0 g1 g2 KW B1 x4' x3' HW2
  refine (GL _).out.mono ?_
  rintro e w3 ⟨rfl, k3⟩
  have V3 := Lib.hid (V2.out.keeps k3)
  have K3 : Hid (∀ S, Keeps S w w3) := Lib.hid (fun S => (K2.out S).trans (k3 S))
  clear V2 K2 k3 GL
  have x0 := V3.out.c0
  have x1 := V3.out.c1
  have x2 := V3.out.c2
  have x3 := V3.out.d0
  have x4 := V3.out.d1
  have x5 := V3.out.d2
  go_wp2_with fail
  refine (GT1 _).out.mono ?_
  rintro e w4 ⟨rfl, k4⟩
  have V4 := Lib.hid (V3.out.keeps k4)
  have K4 : Hid (∀ S, Keeps S w w4) := Lib.hid (fun S => (K3.out S).trans (k4 S))
  clear x0 x1 x2 x3 x4 x5 V3 K3 k4
  have x0 := V4.out.c0
  have x1 := V4.out.c1
  have x2 := V4.out.c2
  have x3 := V4.out.d0
  have x4 := V4.out.d1
  have x5 := V4.out.d2
  have f11 := F.out.add4
  go_wp2_with fail
  clear f11
  refine (GT2 _).out.mono ?_
  rintro e w5 ⟨rfl, k5⟩
  have V5 := Lib.hid (V4.out.keeps k5)
  have K5 : Hid (∀ S, Keeps S w w5) := Lib.hid (fun S => (K4.out S).trans (k5 S))
  clear x0 x1 x2 x3 x4 x5 V4 K4 k5
  have x0 := V5.out.c0
  have x1 := V5.out.c1
  have x2 := V5.out.c2
  have x3 := V5.out.d0
  have x4 := V5.out.d1
  have x5 := V5.out.d2
  go_wp2_with fail
  refine (GT3 _).out.mono ?_
  rintro e w6 ⟨rfl, k6⟩
  have V6 := Lib.hid (V5.out.keeps k6)
  have K6 : Hid (∀ S, Keeps S w w6) := Lib.hid (fun S => (K5.out S).trans (k6 S))
  clear x0 x1 x2 x3 x4 x5 V5 K5 k6
  have x0 := V6.out.c0
  have x1 := V6.out.c1
  have x2 := V6.out.c2
  have x3 := V6.out.d0
  have x4 := V6.out.d1
  have x5 := V6.out.d2
  go_wp2_with fail
  refine (GW _).out.mono ?_
  rintro e w7 ⟨rfl, k7⟩
  have V7 := Lib.hid (V6.out.keeps k7)
  have K7 : Hid (∀ S, Keeps S w w7) := Lib.hid (fun S => (K6.out S).trans (k7 S))
  clear x0 x1 x2 x3 x4 x5 V6 K6 k7
  have x0 := V7.out.c0
  have x1 := V7.out.c1
  have x2 := V7.out.c2
  have x3 := V7.out.d0
  have x4 := V7.out.d1
  have x5 := V7.out.d2
  go_wp2_with fail
  refine (GT3 _).out.mono ?_
  rintro e w8 ⟨rfl, k8⟩
  have V8 := Lib.hid (V7.out.keeps k8)
  have K8 : Hid (∀ S, Keeps S w w8) := Lib.hid (fun S => (K7.out S).trans (k8 S))
  clear x0 x1 x2 x3 x4 x5 V7 K7 k8
  have x0 := V8.out.c0
  have x1 := V8.out.c1
  have x2 := V8.out.c2
  have x3 := V8.out.d0
  have x4 := V8.out.d1
  have x5 := V8.out.d2
  have f4 := F.out.min2
  have f5 := F.out.add1
  have g5 := F.out.add5
  go_wp2_with fail
  try simp only [f4, f5, g5]
  clear f4
  clear f5
  clear g5
  refine (GV _).out.mono ?_
  rintro e w9 ⟨rfl, k9⟩
  have V9 := Lib.hid (V8.out.keeps k9)
  have K9 : Hid (∀ S, Keeps S w w9) := Lib.hid (fun S => (K8.out S).trans (k9 S))
  clear x0 x1 x2 x3 x4 x5 V8 K8 k9
  have x0 := V9.out.c0
  have x1 := V9.out.c1
  have x2 := V9.out.c2
  have x3 := V9.out.d0
  have x4 := V9.out.d1
  have x5 := V9.out.d2
  have f6 := F.out.mul1
  have f7 := F.out.div1
  have f8 := F.out.div2
  have f9 := F.out.add2
  have f10 := F.out.add3
  have f13 := F.out.le2
  have f14 := F.out.le3
  have f15 := F.out.d0
  have f16 := F.out.d1
  have f17 := F.out.d2
  go_wp2_with fail
  clear f6 f7 f8 f9 f10 f13 f14 f15 f16 f17
  refine (HO _).out.mono ?_
  rintro e w99 ⟨rfl, k99⟩
  have K99 : Hid (∀ S, Keeps S w w99) := Lib.hid (fun S => (K9.out S).trans (k99 S))
  clear k99
  go_wp2
  try rw [Exit.noGoto_ret]
  go_ret
  exact ⟨rfl, K99.out⟩
end Go.Proofs.Ytbiadglhfpapaaa.bp
