/-
  bucket: Fits.
-/
import Derived.Test.YtbiadglhfpapaaaBpF
set_option linter.unusedVariables false
namespace Go.Proofs.Ytbiadglhfpapaaa.bp
open Go.RowKit Go.Proofs.Ytbiadglhfpapaaa.oc Go.Proofs.Ytbiadglhfpapaaa.mz Go.Proofs.Ytbiadglhfpapaaa.bk Go.Proofs.Ytbiadglhfpapaaa.ss
section
variable (w : World) (n d b : Nat)
/-- what Search answers -/
def SearchPost (tf : Nat → Bool) (m : Nat) (w : World) (e : Ending) (w' : World) : Prop := ∃ k : Nat, e = .returned (.int .i64 (k : Int)) ∧ (k ≤ m ∧ (∀ t, t < k → tf t = false) ∧ (k < m → tf k = true)) ∧ ∀ S, Keeps S w w'
set_option maxRecDepth 100000 in
set_option maxHeartbeats 4000000 in
theorem search_ (m P2 P3 P8 : Nat) (tf : Nat → Bool) (hm : m ≤ 5000) (hmono : ∀ x y, x ≤ y → y < m → tf x = true → tf y = true) (hf : ∀ (W : World) (i : Nat), (∀ S, Keeps S w W) → i < m → Calls Try.prog 43 #[.int .i64 (i : Int), .pointer (some ⟨P2, 0, none⟩), .pointer (some ⟨P3, 0, none⟩), .pointer (some ⟨P8, 0, none⟩)] W fun e W' => e = .returned (.bool (tf i)) ∧ ∀ S, Keeps S W W') :
    Calls Try.prog 42 #[.int .i64 (m : Int), .func (.func 43) #[] #[.pointer (some ⟨P2, 0, none⟩), .pointer (some ⟨P3, 0, none⟩), .pointer (some ⟨P8, 0, none⟩)]] w (SearchPost tf m w) := by
  have HF := Lib.hid hf
  have HM := Lib.hid hm
  have HMO := Lib.hid hmono
  clear hm hf hmono
  go_enter Try.func42, Try.ntmps42
  go_wp2_with fail
  go_loopw [5, 6] (fun iv jv wr => ∃ i j : Nat, iv = .int .i64 (i : Int) ∧ jv = .int .i64 (j : Int) ∧ (i ≤ j ∧ j ≤ m) ∧ (∀ S, Keeps S w wr) ∧ (∀ t, t < i → tf t = false) ∧ (j < m → tf j = true)) (fun iv jv _ => (intOf jv - intOf iv).toNat)
  case atStart => exact ⟨0, m, rfl, rfl, by omega, fun S => Keeps.refl S w, fun t h => absurd h (Nat.not_lt_zero _), fun h => absurd h (Nat.lt_irrefl _)⟩
  case round =>
    obtain ⟨i, j, rfl, rfl, hij, hkk, hlo, hhi⟩ := hrel
    have HIJ := Lib.hid hij
    have HK := Lib.hid hkk
    have HLO := Lib.hid hlo
    have HHI := Lib.hid hhi
    rcases Nat.lt_or_ge i j with hlt | hlt
    · have hlt' : (i : Int) < (j : Int) := by omega
      obtain ⟨s, hs⟩ : ∃ s, s = i + j := ⟨_, rfl⟩
      obtain ⟨y, hy⟩ : ∃ y, y = s / 2 := ⟨_, rfl⟩
      have HY := Lib.hid (show i ≤ y ∧ y < j ∧ y < m ∧ m ≤ 5000 from by have := HM.out; omega)
      have hs4 : s ≤ 4000000 := by have := HM.out; omega
      have GX := Lib.hid (And.intro (wadd i j s hs.symm hs4) (And.intro (whalf s y hy hs4) (wrap_inc y (by have := HY.out; omega))))
      have HC := fun W (hk : ∀ S, Keeps S w W) => Lib.hid (HF.out W y hk HY.out.2.2.1)
      have HT := Lib.hid (rfl : tf y = tf y)
      clear hij hkk hlo hhi hlt hs hy hs4
      cases htf : tf y
      · rw [htf] at HC
        have HTF := Lib.hid htf
        clear htf
        obtain ⟨g1, ⟨g2, g3⟩, wy⟩ := GX.out
        go_wp2_with fail
        try rw [g3]
        clear g1 g2 g3
        refine (HC _ HK.out).out.mono ?_
        rintro e w3 ⟨rfl, k3⟩
        have K3 : Hid (∀ S, Keeps S w w3) := Lib.hid (fun S => (HK.out S).trans (k3 S))
        clear k3 HC HK
        go_wp2
        go_roundw
        clear wy
        case rel =>
          have hfl : ∀ t, t < y + 1 → tf t = false := by
            intro t h
            cases hq : tf t with
            | false => rfl
            | true =>
              have h2 := HMO.out t y (by omega) HY.out.2.2.1 hq
              rw [HTF.out] at h2
              cases h2
          exact ⟨y + 1, j, by first | rfl | go_num, rfl, by have := HIJ.out; have := HY.out; omega, K3.out, hfl, HHI.out⟩
        case measure => have := HY.out; simp only [intOf]; omega
      · rw [htf] at HC
        have HTF := Lib.hid htf
        clear htf
        obtain ⟨g1, ⟨g2, g3⟩, wy⟩ := GX.out
        go_wp2_with fail
        try rw [g3]
        clear g1 g2 g3 wy
        refine (HC _ HK.out).out.mono ?_
        rintro e w3 ⟨rfl, k3⟩
        have K3 : Hid (∀ S, Keeps S w w3) := Lib.hid (fun S => (HK.out S).trans (k3 S))
        clear k3 HC HK
        go_wp2
        go_roundw
        case rel => exact ⟨i, y, rfl, rfl, by have := HIJ.out; have := HY.out; omega, K3.out, HLO.out, fun _ => HTF.out⟩
        case measure => have := HY.out; simp only [intOf]; omega
    · have hlt' : ¬ (i : Int) < (j : Int) := by omega
      have he : i = j := by omega
      subst he
      clear hij hkk hlo hhi hlt
      go_wp2
      try rw [Exit.noGoto_ret]
      go_ret
      exact ⟨i, rfl, ⟨HIJ.out.2, HLO.out, HHI.out⟩, HK.out⟩
set_option maxRecDepth 100000 in
set_option maxHeartbeats 2000000 in
theorem pred_ (A : Option Addr) (m c B R N P2 P3 P8 : Nat) (g : Nat → Nat) (l : List (Nat × Nat)) (hm : May n d b) (ha : Asks w B A l) (hB : B ≤ w.heap.size) (hl : l.length = m) (hm9 : m ≤ 4096) (ht : ∀ p ∈ l, p.1 ≤ 1099511627776) (hr : Ro w R m g)
    (h2 : Blk w P2 24 [.int .u64 (n : Int), .int .u64 (d : Int), .int .u64 (b : Int)]) (h3 : Blk w P3 36 [.slice A m c]) (h8 : Blk w P8 68 [.slice (some ⟨R, 0, none⟩) m m]) :
    Calls Try.prog 43 #[.int .i64 (N : Int), .pointer (some ⟨P2, 0, none⟩), .pointer (some ⟨P3, 0, none⟩), .pointer (some ⟨P8, 0, none⟩)] w fun e w' => e = .returned (.bool (over n d b 0 (upTo l N (plc m g)))) ∧ ∀ S, Keeps S w w' := by
  have HT := Lib.hid (tooFull_ w n d b A m c B R N g l hm ha hB hl hm9 ht hr)
  unfold bv at HT
  have x0 : w.cell? ⟨P2, 0, none⟩ = some (.int .u64 (n : Int)) := by rw [h2.cell]; rfl
  have x1 : w.cell? ⟨P2, 1, none⟩ = some (.int .u64 (d : Int)) := by rw [h2.cell]; rfl
  have x2 : w.cell? ⟨P2, 2, none⟩ = some (.int .u64 (b : Int)) := by rw [h2.cell]; rfl
  have x3 : w.cell? ⟨P3, 0, none⟩ = some (.slice A m c) := by rw [h3.cell]; rfl
  have x4 : w.cell? ⟨P8, 0, none⟩ = some (.slice (some ⟨R, 0, none⟩) m m) := by rw [h8.cell]; rfl
  clear hm ha hB hl hm9 ht hr h2 h3 h8
  generalize over n d b 0 (upTo l N (plc m g)) = r at *
  go_enter Try.func43, Try.ntmps43
  go_wp2_with fail
  refine HT.out.mono ?_
  rintro e w1 ⟨rfl, k1⟩
  have K1 := Lib.hid k1
  clear k1 HT x0 x1 x2 x3 x4
  go_wp2
  try rw [Exit.noGoto_ret]
  go_ret
  exact ⟨rfl, K1.out⟩
/-- what Fits answers of good arguments -/
def FitsPost (n d b : Nat) (l : List (Nat × Nat)) (w : World) (e : Ending) (w' : World) : Prop := ∃ k : Nat, e = .returned (.tuple #[.int .i64 (k : Int), .int .i64 0]) ∧ IsFits n d b l k ∧ ∀ S, Keeps S w w'
set_option maxRecDepth 100000 in
set_option maxHeartbeats 8000000 in
theorem fits_ok (A : Option Addr) (m c : Nat) (l : List (Nat × Nat)) (hm : May n d b) (ha : Asks w w.heap.size A l) (hl : l.length = m) (hm9 : m ≤ 4096) (ht : ∀ p ∈ l, p.1 ≤ 1099511627776) : Calls Try.prog 26 #[bv n d b, .slice A m c] w (FitsPost n d b l w) := by
  have HC := fun w => Lib.hid (check_ w n d b)
  rw [show chk n d b = 0 from by unfold chk; rw [if_pos hm]] at HC
  have HW := fun w => Lib.hid (wrong_ w n d b (lat l))
  rw [show err n d b (lat l) = 0 from by unfold err; rw [if_pos hm, if_pos ((lat_le l _).2 ht)]] at HW
  have HL := Lib.hid (fun (W : World) (hk : ∀ S, Keeps S w W) => latest_ W A m c l ((ha.keeps (S := fun _ => False) (hk _) (fun _ _ z => z)).base (hk (fun _ => False)).size) hl (by omega))
  have HRI := Lib.hid (fun (W : World) (hk : ∀ S, Keeps S w W) => rising_ W A m c l ((ha.keeps (S := fun _ => False) (hk _) (fun _ _ z => z)).base (hk (fun _ => False)).size) hl hm9)
  have HI := Lib.hid (show l.length = m ∧ m ≤ 4096 ∧ (∀ p ∈ l, p.1 ≤ 1099511627776) ∧ May n d b from ⟨hl, hm9, ht, hm⟩)
  have HA := Lib.hid ha
  unfold bv at HC HW ⊢
  generalize lat l = lt at *
  obtain ⟨w0, hw0⟩ : ∃ x, x = (w.alloc (.cells #[.int .u64 (n : Int), .int .u64 (d : Int), .int .u64 (b : Int)] 24)).alloc (.cells #[.slice A m c] 36) := ⟨_, rfl⟩
  have B2 := (Blk.new w 24 #[.int .u64 (n : Int), .int .u64 (d : Int), .int .u64 (b : Int)]).alloc (.cells #[.slice A m c] 36)
  have B3 := Blk.new (w.alloc (.cells #[.int .u64 (n : Int), .int .u64 (d : Int), .int .u64 (b : Int)] 24)) 36 #[.slice A m c]
  rw [World.size_alloc] at B3
  rw [← hw0] at B2 B3
  have V0 := Lib.hid (show (∀ S, Keeps S w w0) ∧ Blk w0 w.heap.size 24 [.int .u64 (n : Int), .int .u64 (d : Int), .int .u64 (b : Int)] ∧ Blk w0 (w.heap.size + 1) 36 [.slice A m c] from ⟨fun S => by rw [hw0]; exact ((Keeps.refl S w).alloc _).alloc _, B2, B3⟩)
  have m1 : ¬ (4096 : Int) < (m : Int) := by omega
  clear hm ha hl hm9 ht B2 B3
  go_enter Try.func26, Try.ntmps26
  go_wp2_with fail
  rw [← hw0]
  clear hw0
  refine (HC _).out.mono ?_
  rintro e w1 ⟨rfl, k1⟩
  obtain ⟨P3, hP3⟩ : ∃ x, x = w.heap.size + 1 := ⟨_, rfl⟩
  rw [← hP3] at V0 ⊢
  have V1 := Lib.hid (show (∀ S, Keeps S w w1) ∧ Blk w1 w.heap.size 24 [.int .u64 (n : Int), .int .u64 (d : Int), .int .u64 (b : Int)] ∧ Blk w1 P3 36 [.slice A m c] from ⟨fun S => (V0.out.1 S).trans (k1 S), Blk.keeps V0.out.2.1 (k1 (fun _ => False)) (fun z => z), Blk.keeps V0.out.2.2 (k1 (fun _ => False)) (fun z => z)⟩)
  have x0 : w1.cell? ⟨w.heap.size, 0, none⟩ = some (.int .u64 (n : Int)) := by rw [V1.out.2.1.cell]; rfl
  have x1 : w1.cell? ⟨w.heap.size, 1, none⟩ = some (.int .u64 (d : Int)) := by rw [V1.out.2.1.cell]; rfl
  have x2 : w1.cell? ⟨w.heap.size, 2, none⟩ = some (.int .u64 (b : Int)) := by rw [V1.out.2.1.cell]; rfl
  have x3 : w1.cell? ⟨P3, 0, none⟩ = some (.slice A m c) := by rw [V1.out.2.2.cell]; rfl
  clear k1 V0 hP3 HC
  go_wp2_with fail
  go_region_held3 (fun w' => w'.cell? ⟨w.heap.size, 0, none⟩ = some (.int .u64 (n : Int)) ∧ w'.cell? ⟨w.heap.size, 1, none⟩ = some (.int .u64 (d : Int)) ∧ w'.cell? ⟨w.heap.size, 2, none⟩ = some (.int .u64 (b : Int)) ∧ w'.cell? ⟨P3, 0, none⟩ = some (.slice A m c))
    (first | exact ⟨x0, x1, x2, x3⟩ | exact ⟨y0, y1, y2, y3⟩ | exact ⟨z0, z1, z2, z3⟩)
    ((first
      | (go_at_call 40; refine (HL.out _ (fun S => (V1.out.1 S).drew)).mono ?_; rintro e wa ⟨rfl, ka⟩; have y0 := Keeps.cell (ka (fun _ => False)) (show w1.drew.cell? _ = _ from x0) (fun z => z); have y1 := Keeps.cell (ka (fun _ => False)) (show w1.drew.cell? _ = _ from x1) (fun z => z); have y2 := Keeps.cell (ka (fun _ => False)) (show w1.drew.cell? _ = _ from x2) (fun z => z); have y3 := Keeps.cell (ka (fun _ => False)) (show w1.drew.cell? _ = _ from x3) (fun z => z); have KA : Hid (∀ S, Keeps S w1 wa) := Lib.hid (fun S => (Keeps.refl S w1).drew.trans (ka S)); clear ka)
      | (go_at_call 31; refine (HW _).out.mono ?_; rintro e wb ⟨rfl, kb⟩; have z0 := Keeps.cell (kb (fun _ => False)) y0 (fun z => z); have z1 := Keeps.cell (kb (fun _ => False)) y1 (fun z => z); have z2 := Keeps.cell (kb (fun _ => False)) y2 (fun z => z); have z3 := Keeps.cell (kb (fun _ => False)) y3 (fun z => z); have KB : Hid (∀ S, Keeps S w1 wb) := Lib.hid (fun S => (KA.out S).trans (kb S)); clear kb)))
  have V2 := Lib.hid (show (∀ S, Keeps S w wb) ∧ Blk wb w.heap.size 24 [.int .u64 (n : Int), .int .u64 (d : Int), .int .u64 (b : Int)] ∧ Blk wb P3 36 [.slice A m c] from ⟨fun S => (V1.out.1 S).trans (KB.out S), Blk.keeps V1.out.2.1 (KB.out (fun _ => False)) (fun z => z), Blk.keeps V1.out.2.2 (KB.out (fun _ => False)) (fun z => z)⟩)
  clear x0 x1 x2 x3 y0 y1 y2 y3 z0 z1 z2 KA KB V1 HL HW
  go_wp2_with fail
  refine (HRI.out _ V2.out.1).mono ?_
  rintro e w3 ⟨R, g, rfl, k3, r3, s3, o3, hRR⟩
  have kw3 : ∀ S, Keeps S w w3 := fun S => (V2.out.1 S).trans (k3 S)
  obtain ⟨w4, hw4⟩ : ∃ x, x = w3.alloc (.cells #[.slice (some ⟨R, 0, none⟩) m m] 68) := ⟨_, rfl⟩
  have B8 := Blk.new w3 68 #[.slice (some ⟨R, 0, none⟩) m m]
  rw [← hw4] at B8
  have k34 : ∀ S, Keeps S w3 w4 := fun S => by rw [hw4]; exact (Keeps.refl S w3).alloc _
  have V4 := Lib.hid (show (∀ S, Keeps S w w4) ∧ Blk w4 w.heap.size 24 [.int .u64 (n : Int), .int .u64 (d : Int), .int .u64 (b : Int)] ∧ Blk w4 P3 36 [.slice A m c] ∧ Blk w4 w3.heap.size 68 [.slice (some ⟨R, 0, none⟩) m m] ∧ Ro w4 R m g from ⟨fun S => (kw3 S).trans (k34 S), Blk.keeps (Blk.keeps V2.out.2.1 (k3 (fun _ => False)) (fun z => z)) (k34 (fun _ => False)) (fun z => z), Blk.keeps (Blk.keeps V2.out.2.2 (k3 (fun _ => False)) (fun z => z)) (k34 (fun _ => False)) (fun z => z), B8, r3.keeps (k34 (fun _ => False)) (fun z => z)⟩)
  have V5 := Lib.hid (And.intro s3 o3)
  have z3 : (w3.alloc (.cells #[.slice (some ⟨R, 0, none⟩) m m] 68)).cell? ⟨P3, 0, none⟩ = some (.slice A m c) := by rw [← hw4, V4.out.2.2.1.cell]; rfl
  have hff := fun (i : Nat) (hi : i < m) => over_full (g := g) HI.out.2.2.2 HI.out.2.2.1 (by rw [HI.out.1]; exact V5.out.1) (by rw [HI.out.1]; exact V5.out.2) (show i < l.length by rw [HI.out.1]; exact hi)
  rw [HI.out.1] at hff
  have HFF := Lib.hid hff
  have HS := Lib.hid (search_ w4 m w.heap.size P3 w3.heap.size (fun i => over n d b 0 (upTo l i (plc m g))) (by have := HI.out; omega) (fun x y hxy hy hx => by
      obtain ⟨j, hj, hf⟩ := (hff x (by omega)).1 hx
      exact (hff y hy).2 ⟨j, by omega, hf⟩) (fun W i hk hi => pred_ W n d b A m c w.heap.size R i w.heap.size P3 w3.heap.size g l HI.out.2.2.2 (HA.out.keeps (S := fun _ => False) ((V4.out.1 _).trans (hk _)) (fun _ _ z => z)) (Nat.le_trans (V4.out.1 (fun _ => False)).size (hk (fun _ => False)).size) HI.out.1 HI.out.2.1 HI.out.2.2.1 (V4.out.2.2.2.2.keeps (hk (fun _ => False)) (fun z => z)) (Blk.keeps V4.out.2.1 (hk (fun _ => False)) (fun z => z)) (Blk.keeps V4.out.2.2.1 (hk (fun _ => False)) (fun z => z)) (Blk.keeps V4.out.2.2.2.1 (hk (fun _ => False)) (fun z => z))))
  have K4 := Lib.hid V4.out.1
  have HW4 := Lib.hid hw4
  clear k3 r3 s3 o3 hRR kw3 hw4 B8 k34 hff V2 HRI V4 V5
  go_wp2_with fail
  rw [← HW4.out]
  refine HS.out.mono ?_
  rintro e w5 ⟨k, rfl, hk, k5⟩
  have HP := Lib.hid (show IsFits n d b l k ∧ ∀ S, Keeps S w w5 from by
    refine ⟨⟨by rw [HI.out.1]; exact hk.1, fun j hj hf => ?_, fun hkl => ?_⟩, fun S => (K4.out S).trans (k5 S)⟩
    · have h1 : over n d b 0 (upTo l j (plc m g)) = false := hk.2.1 j hj
      have h2 := (HFF.out j (Nat.lt_of_lt_of_le hj hk.1)).2 ⟨j, Nat.le_refl _, hf⟩
      rw [h1] at h2; cases h2
    · rw [HI.out.1] at hkl
      obtain ⟨j, hj, hf⟩ := (HFF.out k hkl).1 (hk.2.2 hkl)
      rcases Nat.lt_or_ge j k with q | q
      · have h1 : over n d b 0 (upTo l j (plc m g)) = false := hk.2.1 j q
        have h2 := (HFF.out j (by omega)).2 ⟨j, Nat.le_refl _, hf⟩
        rw [h1] at h2; cases h2
      · have e : j = k := by omega
        subst e; exact hf)
  clear hk k5 HS HFF K4 HW4
  go_wp2
  try rw [Exit.noGoto_ret]
  go_ret2
  exact ⟨k, rfl, HP.out⟩
theorem fits_said : FitsSaid := fun w n d b A m c l hm ha hl hm9 ht => fits_ok w n d b A m c l hm ha hl hm9 ht
theorem works_said : WorksSaid := fun w => works_ w (run_said) (most_said) fits_said
end
end Go.Proofs.Ytbiadglhfpapaaa.bp
