/-
  BucketTells: the program and the document's answer tell the same; walked.
-/
import Derived.Test.YtbiadglhfpapaaaBpG
set_option linter.unusedVariables false
namespace Go.Proofs.Ytbiadglhfpapaaa.bp
open Go.RowKit Go.Proofs.Ytbiadglhfpapaaa.oc Go.Proofs.Ytbiadglhfpapaaa.mz Go.Proofs.Ytbiadglhfpapaaa.bk
theorem check_both (n d b : Nat) : ∃ e : Int, (∀ w, Calls Try.prog 10 #[bv n d b] w fun r w' => r = .returned (.int .i64 e) ∧ ∀ S, Keeps S w w') ∧ (∀ w, Calls Try.prog 11 #[bv n d b] w fun r w' => r = .returned (.int .i64 e) ∧ ∀ S, Keeps S w w') := by
  by_cases hm : May n d b
  · exact ⟨0, fun w => by have := check_ w n d b; rwa [show chk n d b = 0 from by unfold chk; rw [if_pos hm]] at this, fun w => check_ok w n d b hm⟩
  · exact ⟨2, fun w => by have := check_ w n d b; rwa [show chk n d b = 2 from by unfold chk; rw [if_neg hm]] at this, fun w => check_no w n d b hm⟩
theorem take_both (n d b s now k : Nat) (hs : s < 18446744073709551616) (hk : k < 18446744073709551616) : ∃ (t : Nat) (l : Bool) (e : Int), (∀ w, Calls Try.prog 12 #[bv n d b, .int .u64 (s : Int), .int .u64 (now : Int), .int .u64 (k : Int)] w fun r w' => r = .returned (.tuple #[.int .u64 (t : Int), .bool l, .int .i64 e]) ∧ ∀ S, Keeps S w w') ∧ (∀ w, Calls Try.prog 13 #[bv n d b, .int .u64 (s : Int), .int .u64 (now : Int), .int .u64 (k : Int)] w fun r w' => r = .returned (.tuple #[.int .u64 (t : Int), .bool l, .int .i64 e]) ∧ ∀ S, Keeps S w w') := by
  by_cases he : err n d b now = 0
  · exact ⟨_, _, _, fun w => bp.take_ok w n d b s now k he hs hk, fun w => take_any w n d b s now k he hs hk⟩
  · exact ⟨0, false, err n d b now, fun w => bp.take_err w n d b s now k he, fun w => bk.take_err w n d b s now k he⟩
theorem level_both (n d b s now : Nat) (hs : s < 18446744073709551616) : ∃ (t : Nat) (e : Int), (∀ w, Calls Try.prog 14 #[bv n d b, .int .u64 (s : Int), .int .u64 (now : Int)] w fun r w' => r = .returned (.tuple #[.int .u64 (t : Int), .int .i64 e]) ∧ ∀ S, Keeps S w w') ∧ (∀ w, Calls Try.prog 15 #[bv n d b, .int .u64 (s : Int), .int .u64 (now : Int)] w fun r w' => r = .returned (.tuple #[.int .u64 (t : Int), .int .i64 e]) ∧ ∀ S, Keeps S w w') := by
  by_cases he : err n d b now = 0
  · exact ⟨_, _, fun w => bp.level_ok w n d b s now he hs, fun w => bk.level_ok w n d b s now he hs⟩
  · exact ⟨0, err n d b now, fun w => bp.level_err w n d b s now he, fun w => bk.level_err w n d b s now he⟩
theorem most_both (n d b now : Nat) : ∃ (t : Nat) (e : Int), (∀ w, Calls Try.prog 18 #[bv n d b, .int .u64 (now : Int)] w fun r w' => r = .returned (.tuple #[.int .u64 (t : Int), .int .i64 e]) ∧ ∀ S, Keeps S w w') ∧ (∀ w, Calls Try.prog 19 #[bv n d b, .int .u64 (now : Int)] w fun r w' => r = .returned (.tuple #[.int .u64 (t : Int), .int .i64 e]) ∧ ∀ S, Keeps S w w') := by
  by_cases he : err n d b now = 0
  · exact ⟨_, _, fun w => bp.most_ok w n d b now he, fun w => bk.most_ok w n d b now he⟩
  · exact ⟨0, err n d b now, fun w => bp.most_err w n d b now he, fun w => bk.most_err w n d b now he⟩
/-- what When answers, of good arguments -/
theorem when_any (n d b s now k : Nat) (he : err n d b now = 0) (hs : s < 18446744073709551616) (hk : k < 18446744073709551616) : (lets n d b s 1099511627776 k = false ∧ ∀ w, Calls Try.prog 16 #[bv n d b, .int .u64 (s : Int), .int .u64 (now : Int), .int .u64 (k : Int)] w fun r w' => r = .returned (.tuple #[.int .u64 0, .bool false, .int .i64 0]) ∧ ∀ S, Keeps S w w') ∨ (lets n d b s 1099511627776 k = true ∧ ∃ low : Nat, IsWhen n d b s now k low ∧ ∀ w, Calls Try.prog 16 #[bv n d b, .int .u64 (s : Int), .int .u64 (now : Int), .int .u64 (k : Int)] w fun r w' => r = .returned (.tuple #[.int .u64 (low : Int), .bool true, .int .i64 0]) ∧ ∀ S, Keeps S w w') := by
  have hw : ∀ w, Calls Try.prog 16 #[bv n d b, .int .u64 (s : Int), .int .u64 (now : Int), .int .u64 (k : Int)] w (WhenAns n d b s now k w) := fun w => by
    rcases Nat.lt_or_ge b k with q | q
    · exact when_over w n d b s now k he q
    · exact when_in w n d b s now k he hs q
  by_cases hl : lets n d b s 1099511627776 k = true
  · right
    have hex : ∃ low, IsWhen n d b s now k low := by
      obtain ⟨hm, hnow⟩ := err_ok he
      by_cases hk2 : k ≤ b
      · refine ⟨max (ceil (s - (b - k) * d) n) now, by omega, ?_, (lets_ceil hm.1.1 hk2).2 (by omega), fun t h1 h2 => ?_⟩
        · have := (lets_ceil (t := 1099511627776) hm.1.1 hk2).1 hl; omega
        · rw [← Bool.not_eq_true, lets_ceil hm.1.1 hk2]; omega
      · rw [lets_over hm.2.1.1 (by omega)] at hl; cases hl
    obtain ⟨low, hlow⟩ := hex
    refine ⟨hl, low, hlow, fun w => (hw w).mono ?_⟩
    rintro e w' ⟨k1, ⟨h1, _⟩ | ⟨l2, h2, rfl⟩⟩
    · rw [hl] at h1; cases h1
    · exact ⟨by rw [h2.one hlow], k1⟩
  · left
    have hl2 : lets n d b s 1099511627776 k = false := by simpa using hl
    refine ⟨hl2, fun w => (hw w).mono ?_⟩
    rintro e w' ⟨k1, ⟨h1, rfl⟩ | ⟨l2, h2, rfl⟩⟩
    · exact ⟨rfl, k1⟩
    · have := lets_mono h2.le h2.yes
      rw [hl2] at this; cases this
theorem when_both (n d b s now k : Nat) (hs : s < 18446744073709551616) (hk : k < 18446744073709551616) : ∃ (t : Nat) (l : Bool) (e : Int), (∀ w, Calls Try.prog 16 #[bv n d b, .int .u64 (s : Int), .int .u64 (now : Int), .int .u64 (k : Int)] w fun r w' => r = .returned (.tuple #[.int .u64 (t : Int), .bool l, .int .i64 e]) ∧ ∀ S, Keeps S w w') ∧ (∀ w, Calls Try.prog 17 #[bv n d b, .int .u64 (s : Int), .int .u64 (now : Int), .int .u64 (k : Int)] w fun r w' => r = .returned (.tuple #[.int .u64 (t : Int), .bool l, .int .i64 e]) ∧ ∀ S, Keeps S w w') := by
  by_cases he : err n d b now = 0
  · rcases when_any n d b s now k he hs hk with ⟨hl, hp⟩ | ⟨hl, low, hlow, hp⟩
    · exact ⟨0, false, 0, hp, fun w => when_no w n d b s now k he hs hk hl⟩
    · refine ⟨low, true, 0, hp, fun w => (when_yes w n d b s now k he hs hk hl).mono ?_⟩
      rintro e w' ⟨l2, rfl, h2, k2⟩
      exact ⟨by rw [h2.one hlow], k2⟩
  · exact ⟨0, false, err n d b now, fun w => bp.when_err w n d b s now k he, fun w => bk.when_err w n d b s now k he⟩
/-- an ask of one -/
def av (s now k : Nat) : Value := .agg #[.int .u64 (s : Int), .int .u64 (now : Int), .int .u64 (k : Int)]
/-- the bucket's block and the ask's -/
def Two (w : World) (P Q n d b s now k : Nat) : Prop := Blk w P 24 [.int .u64 (n : Int), .int .u64 (d : Int), .int .u64 (b : Int)] ∧ Blk w Q 26 [.int .u64 (s : Int), .int .u64 (now : Int), .int .u64 (k : Int)]
theorem Two.keeps {w w' : World} {P Q n d b s now k : Nat} (h : Two w P Q n d b s now k) (kk : ∀ S, Keeps S w w') : Two w' P Q n d b s now k := ⟨Blk.keeps h.1 (kk (fun _ => False)) (fun z => z), Blk.keeps h.2 (kk (fun _ => False)) (fun z => z)⟩
theorem Two.c0 {w : World} {P Q n d b s now k : Nat} (h : Two w P Q n d b s now k) : w.cell? ⟨P, 0, none⟩ = some (.int .u64 (n : Int)) := by rw [h.1.cell]; rfl
theorem Two.c1 {w : World} {P Q n d b s now k : Nat} (h : Two w P Q n d b s now k) : w.cell? ⟨P, 1, none⟩ = some (.int .u64 (d : Int)) := by rw [h.1.cell]; rfl
theorem Two.c2 {w : World} {P Q n d b s now k : Nat} (h : Two w P Q n d b s now k) : w.cell? ⟨P, 2, none⟩ = some (.int .u64 (b : Int)) := by rw [h.1.cell]; rfl
theorem Two.d0 {w : World} {P Q n d b s now k : Nat} (h : Two w P Q n d b s now k) : w.cell? ⟨Q, 0, none⟩ = some (.int .u64 (s : Int)) := by rw [h.2.cell]; rfl
theorem Two.d1 {w : World} {P Q n d b s now k : Nat} (h : Two w P Q n d b s now k) : w.cell? ⟨Q, 1, none⟩ = some (.int .u64 (now : Int)) := by rw [h.2.cell]; rfl
theorem Two.d2 {w : World} {P Q n d b s now k : Nat} (h : Two w P Q n d b s now k) : w.cell? ⟨Q, 2, none⟩ = some (.int .u64 (k : Int)) := by rw [h.2.cell]; rfl
set_option maxRecDepth 100000 in
set_option maxHeartbeats 8000000 in
theorem tells_walk (w : World) (n d b s now k : Nat) (hs : s < 18446744073709551616) (hk : k < 18446744073709551616) : Calls Try.prog 3 #[bv n d b, av s now k] w fun e w' => e = .returned (.bool true) ∧ ∀ S, Keeps S w w' := by
  obtain ⟨ce, C1, C2⟩ := check_both n d b
  obtain ⟨tt, tl, te, T1, T2⟩ := take_both n d b s now k hs hk
  obtain ⟨lt, le, L1, L2⟩ := level_both n d b s now hs
  obtain ⟨wt, wl, we, W1, W2⟩ := when_both n d b s now k hs hk
  obtain ⟨mt, me, M1, M2⟩ := most_both n d b now
  unfold bv at C1 C2 T1 T2 L1 L2 W1 W2 M1 M2 ⊢
  unfold av
  have HC1 := fun w => Lib.hid (C1 w)
  have HC2 := fun w => Lib.hid (C2 w)
  have HT1 := fun w => Lib.hid (T1 w)
  have HT2 := fun w => Lib.hid (T2 w)
  have HL1 := fun w => Lib.hid (L1 w)
  have HL2 := fun w => Lib.hid (L2 w)
  have HW1 := fun w => Lib.hid (W1 w)
  have HW2 := fun w => Lib.hid (W2 w)
  have HM1 := fun w => Lib.hid (M1 w)
  have HM2 := fun w => Lib.hid (M2 w)
  have HO := fun w => Lib.hid (works_said w)
  clear C1 C2 T1 T2 L1 L2 W1 W2 M1 M2 hs hk
  obtain ⟨w0, hw0⟩ : ∃ x, x = (w.alloc (.cells #[.int .u64 (n : Int), .int .u64 (d : Int), .int .u64 (b : Int)] 24)).alloc (.cells #[.int .u64 (s : Int), .int .u64 (now : Int), .int .u64 (k : Int)] 26) := ⟨_, rfl⟩
  have B2 := (Blk.new w 24 #[.int .u64 (n : Int), .int .u64 (d : Int), .int .u64 (b : Int)]).alloc (.cells #[.int .u64 (s : Int), .int .u64 (now : Int), .int .u64 (k : Int)] 26)
  have B3 := Blk.new (w.alloc (.cells #[.int .u64 (n : Int), .int .u64 (d : Int), .int .u64 (b : Int)] 24)) 26 #[.int .u64 (s : Int), .int .u64 (now : Int), .int .u64 (k : Int)]
  rw [World.size_alloc] at B3
  rw [← hw0] at B2 B3
  have K0 : Hid (∀ S, Keeps S w w0) := Lib.hid (fun S => by rw [hw0]; exact ((Keeps.refl S w).alloc _).alloc _)
  have V0 := Lib.hid (show Two w0 w.heap.size (w.heap.size + 1) n d b s now k from ⟨B2, B3⟩)
  clear B2 B3
  go_enter Try.func3, Try.ntmps3
  go_wp2_with fail
  rw [← hw0]
  obtain ⟨Q, hQ⟩ : ∃ x, x = w.heap.size + 1 := ⟨_, rfl⟩
  rw [← hQ] at V0 ⊢
  clear hw0 hQ
  have x0 := V0.out.c0
  have x1 := V0.out.c1
  have x2 := V0.out.c2
  go_region_held3 (fun w' => w'.cell? ⟨w.heap.size, 0, none⟩ = some (.int .u64 (n : Int)) ∧ w'.cell? ⟨w.heap.size, 1, none⟩ = some (.int .u64 (d : Int)) ∧ w'.cell? ⟨w.heap.size, 2, none⟩ = some (.int .u64 (b : Int)))
    (first | exact ⟨x0, x1, x2⟩ | exact ⟨y0, y1, y2⟩ | exact ⟨z0, z1, z2⟩)
    ((first
      | (go_at_call 10; refine (HC1 _).out.mono ?_; rintro e wa ⟨rfl, ka⟩; have y0 := Keeps.cell (ka (fun _ => False)) (show w0.drew.cell? _ = _ from x0) (fun z => z); have y1 := Keeps.cell (ka (fun _ => False)) (show w0.drew.cell? _ = _ from x1) (fun z => z); have y2 := Keeps.cell (ka (fun _ => False)) (show w0.drew.cell? _ = _ from x2) (fun z => z); have KA : Hid (∀ S, Keeps S w0 wa) := Lib.hid (fun S => (Keeps.refl S w0).drew.trans (ka S)); clear ka)
      | (go_at_call 11; refine (HC2 _).out.mono ?_; rintro e wb ⟨rfl, kb⟩; have z0 := Keeps.cell (kb (fun _ => False)) y0 (fun z => z); have z1 := Keeps.cell (kb (fun _ => False)) y1 (fun z => z); have z2 := Keeps.cell (kb (fun _ => False)) y2 (fun z => z); have KB : Hid (∀ S, Keeps S w0 wb) := Lib.hid (fun S => (KA.out S).trans (kb S)); clear kb)))
  have V1 := Lib.hid (V0.out.keeps KB.out)
  have K1 : Hid (∀ S, Keeps S w wb) := Lib.hid (fun S => (K0.out S).trans (KB.out S))
  clear x0 x1 x2 y0 y1 y2 z0 z1 z2 KA KB V0 K0 HC1 HC2
  have x0 := V1.out.c0
  have x1 := V1.out.c1
  have x2 := V1.out.c2
  have x3 := V1.out.d0
  have x4 := V1.out.d1
  have x5 := V1.out.d2
  go_wp2_with fail
  refine (HT1 _).out.mono ?_
  rintro e w2 ⟨rfl, k2⟩
  have V2 := Lib.hid (V1.out.keeps k2)
  have K2 : Hid (∀ S, Keeps S w w2) := Lib.hid (fun S => (K1.out S).trans (k2 S))
  clear x0 x1 x2 x3 x4 x5 V1 K1 k2 HT1
  have x0 := V2.out.c0
  have x1 := V2.out.c1
  have x2 := V2.out.c2
  have x3 := V2.out.d0
  have x4 := V2.out.d1
  have x5 := V2.out.d2
  go_wp2_with fail
  refine (HT2 _).out.mono ?_
  rintro e w3 ⟨rfl, k3⟩
  have V3 := Lib.hid (V2.out.keeps k3)
  have K3 : Hid (∀ S, Keeps S w w3) := Lib.hid (fun S => (K2.out S).trans (k3 S))
  clear x0 x1 x2 x3 x4 x5 V2 K2 k3 HT2
  have x0 := V3.out.c0
  have x1 := V3.out.c1
  have x2 := V3.out.c2
  have x3 := V3.out.d0
  have x4 := V3.out.d1
  have x5 := V3.out.d2
  go_wp2_with fail
  refine (HL1 _).out.mono ?_
  rintro e w4 ⟨rfl, k4⟩
  have V4 := Lib.hid (V3.out.keeps k4)
  have K4 : Hid (∀ S, Keeps S w w4) := Lib.hid (fun S => (K3.out S).trans (k4 S))
  clear x0 x1 x2 x3 x4 x5 V3 K3 k4 HL1
  have x0 := V4.out.c0
  have x1 := V4.out.c1
  have x2 := V4.out.c2
  have x3 := V4.out.d0
  have x4 := V4.out.d1
  have x5 := V4.out.d2
  go_wp2_with fail
  refine (HL2 _).out.mono ?_
  rintro e w5 ⟨rfl, k5⟩
  have V5 := Lib.hid (V4.out.keeps k5)
  have K5 : Hid (∀ S, Keeps S w w5) := Lib.hid (fun S => (K4.out S).trans (k5 S))
  clear x0 x1 x2 x3 x4 x5 V4 K4 k5 HL2
  have x0 := V5.out.c0
  have x1 := V5.out.c1
  have x2 := V5.out.c2
  have x3 := V5.out.d0
  have x4 := V5.out.d1
  have x5 := V5.out.d2
  go_wp2_with fail
  refine (HW1 _).out.mono ?_
  rintro e w6 ⟨rfl, k6⟩
  have V6 := Lib.hid (V5.out.keeps k6)
  have K6 : Hid (∀ S, Keeps S w w6) := Lib.hid (fun S => (K5.out S).trans (k6 S))
  clear x0 x1 x2 x3 x4 x5 V5 K5 k6 HW1
  have x0 := V6.out.c0
  have x1 := V6.out.c1
  have x2 := V6.out.c2
  have x3 := V6.out.d0
  have x4 := V6.out.d1
  have x5 := V6.out.d2
  go_wp2_with fail
  refine (HW2 _).out.mono ?_
  rintro e w7 ⟨rfl, k7⟩
  have V7 := Lib.hid (V6.out.keeps k7)
  have K7 : Hid (∀ S, Keeps S w w7) := Lib.hid (fun S => (K6.out S).trans (k7 S))
  clear x0 x1 x2 x3 x4 x5 V6 K6 k7 HW2
  have x0 := V7.out.c0
  have x1 := V7.out.c1
  have x2 := V7.out.c2
  have x3 := V7.out.d0
  have x4 := V7.out.d1
  have x5 := V7.out.d2
  go_wp2_with fail
  refine (HM1 _).out.mono ?_
  rintro e w8 ⟨rfl, k8⟩
  have V8 := Lib.hid (V7.out.keeps k8)
  have K8 : Hid (∀ S, Keeps S w w8) := Lib.hid (fun S => (K7.out S).trans (k8 S))
  clear x0 x1 x2 x3 x4 x5 V7 K7 k8 HM1
  have x0 := V8.out.c0
  have x1 := V8.out.c1
  have x2 := V8.out.c2
  have x3 := V8.out.d0
  have x4 := V8.out.d1
  have x5 := V8.out.d2
  go_wp2_with fail
  refine (HM2 _).out.mono ?_
  rintro e w9 ⟨rfl, k9⟩
  have V9 := Lib.hid (V8.out.keeps k9)
  have K9 : Hid (∀ S, Keeps S w w9) := Lib.hid (fun S => (K8.out S).trans (k9 S))
  clear x0 x1 x2 x3 x4 x5 V8 K8 k9 HM2
  go_wp2_with fail
  refine (HO _).out.mono ?_
  rintro e w99 ⟨rfl, k99⟩
  have K99 : Hid (∀ S, Keeps S w w99) := Lib.hid (fun S => (K9.out S).trans (k99 S))
  clear k99
  go_wp2
  try rw [Exit.noGoto_ret]
  go_ret
  exact ⟨rfl, K99.out⟩
end Go.Proofs.Ytbiadglhfpapaaa.bp
namespace Go.Proofs.Ytbiadglhfpapaaa.oc
open Go.RowKit Go.Proofs.Ytbiadglhfpapaaa.mz Go.Proofs.Ytbiadglhfpapaaa.bk Go.Proofs.Ytbiadglhfpapaaa.bp
theorem walk_bucketTells (W : World) (n d b : Nat) (hn : n < 18446744073709551616) (hd : d < 18446744073709551616) (hb : b < 18446744073709551616) (s now k : Nat) (hs : s < 18446744073709551616) (hnow : now < 18446744073709551616) (hk : k < 18446744073709551616) : Calls Try.prog 3 #[bv n d b, av s now k] W fun e W' => e = .returned (.bool true) ∧ Below W.heap.size W W' :=
  (tells_walk W n d b s now k hs hk).mono fun e W' ⟨he, hk⟩ => ⟨he, (hk (fun _ => False)).below⟩
end Go.Proofs.Ytbiadglhfpapaaa.oc
