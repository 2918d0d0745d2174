/-
  patchbayref12's When: the first tick, by halves.
-/
import Derived.Test.YtbiadglhfpapaaaBkL
set_option linter.unusedVariables false
namespace Go.Proofs.Ytbiadglhfpapaaa.bk
open Go.RowKit Go.Proofs.Ytbiadglhfpapaaa.oc Go.Proofs.Ytbiadglhfpapaaa.mz
/-- the state behind a Take -/
def takeOf (n d b s now k : Nat) : Nat := if lets n d b s now k then (tOf n s now + k * d) % 18446744073709551616 else s
theorem take_any (w : World) (n d b s now k : Nat) (he : err n d b now = 0) (hs : s < 18446744073709551616) (hk : k < 18446744073709551616) : Calls Try.prog 13 #[bv n d b, .int .u64 (s : Int), .int .u64 (now : Int), .int .u64 (k : Int)] w fun e w' => e = .returned (.tuple #[.int .u64 ((takeOf n d b s now k : Nat) : Int), .bool (lets n d b s now k), .int .i64 0]) ∧ ∀ S, Keeps S w w' := by
  cases hl : lets n d b s now k with
  | true =>
    have := take_yes w n d b s now k he hs hk hl
    simpa [takeOf, hl] using this
  | false =>
    have := take_no w n d b s now k he hs hk hl
    simpa [takeOf, hl] using this
theorem aOf_eq (n s now : Nat) : aOf n s now = s - now * n := by unfold aOf; omega
theorem lets_mono {n d b s k t u : Nat} (h : t ≤ u) (hl : lets n d b s t k = true) : lets n d b s u k = true := by
  unfold lets at *
  rw [aOf_eq] at *
  simp only [decide_eq_true_eq] at *
  have : t * n ≤ u * n := Nat.mul_le_mul h (Nat.le_refl n)
  omega
/-- the first tick from now on at which k are let through -/
structure IsWhen (n d b s now k low : Nat) : Prop where
  ge : now ≤ low
  le : low ≤ 1099511627776
  yes : lets n d b s low k = true
  first : ∀ t, now ≤ t → t < low → lets n d b s t k = false
theorem IsWhen.one {n d b s now k x y : Nat} (h : IsWhen n d b s now k x) (g : IsWhen n d b s now k y) : x = y := by
  rcases Nat.lt_trichotomy x y with q | q | q
  · have := g.first x h.ge q; rw [h.yes] at this; cases this
  · exact q
  · have := h.first y g.ge q; rw [g.yes] at this; cases this
theorem err_at {n d b now t : Nat} (he : err n d b now = 0) (ht : t ≤ 1099511627776) : err n d b t = 0 := by
  obtain ⟨h, _⟩ := err_ok he
  simp [err, h]; omega
section
variable (w : World) (n d b : Nat)
set_option maxRecDepth 100000 in
set_option maxHeartbeats 1000000 in
theorem when_err (s now k : Nat) (he : ¬ err n d b now = 0) : Calls Try.prog 17 #[bv n d b, .int .u64 (s : Int), .int .u64 (now : Int), .int .u64 (k : Int)] w fun e w' => e = .returned (.tuple #[.int .u64 0, .bool false, .int .i64 (err n d b now)]) ∧ ∀ S, Keeps S w w' := by
  have HW := fun w => Lib.hid (wrong_ w n d b now)
  unfold bv at HW ⊢
  generalize err n d b now = er at *
  have q1 : (er == 0) = false := by simp; omega
  have q2 : (er != 0) = true := by simp; omega
  go_enter Try.func17, Try.ntmps17
  go_wp2_with fail
  refine (HW _).out.mono ?_
  rintro e w1 ⟨rfl, k1⟩
  have K1 : Hid (∀ S, Keeps S w w1) := Lib.hid (fun S => ((Keeps.refl S w).alloc _).trans (k1 S))
  clear k1
  go_wp2
  try rw [Exit.noGoto_ret]
  go_ret3
  exact ⟨rfl, K1.out⟩
set_option maxRecDepth 100000 in
set_option maxHeartbeats 1000000 in
theorem when_no (s now k : Nat) (he : err n d b now = 0) (hs : s < 18446744073709551616) (hk : k < 18446744073709551616) (hl : lets n d b s 1099511627776 k = false) : Calls Try.prog 17 #[bv n d b, .int .u64 (s : Int), .int .u64 (now : Int), .int .u64 (k : Int)] w fun e w' => e = .returned (.tuple #[.int .u64 0, .bool false, .int .i64 0]) ∧ ∀ S, Keeps S w w' := by
  have HW := fun w => Lib.hid (wrong_ w n d b now)
  rw [he] at HW
  have HT := fun w => Lib.hid (take_any w n d b s 1099511627776 k (err_at he (Nat.le_refl _)) hs hk)
  rw [hl] at HT
  have hc : ((1099511627776 : Nat) : Int) = 1099511627776 := rfl
  simp only [hc] at HT
  unfold bv at HW HT ⊢
  clear he hs hk hl hc
  generalize takeOf n d b s 1099511627776 k = x at *
  go_enter Try.func17, Try.ntmps17
  go_wp2_with fail
  have B0 := Blk.new w 24 #[.int .u64 (n : Int), .int .u64 (d : Int), .int .u64 (b : Int)]
  refine (HW _).out.mono ?_
  rintro e w1 ⟨rfl, k1⟩
  have K1 : Hid (∀ S, Keeps S w w1) := Lib.hid (fun S => ((Keeps.refl S w).alloc _).trans (k1 S))
  have B1 := Blk.keeps B0 (k1 (fun _ => False)) (fun z => z)
  have x0 : w1.cell? ⟨w.heap.size, 0, none⟩ = some (.int .u64 (n : Int)) := by rw [B1.cell]; rfl
  have x1 : w1.cell? ⟨w.heap.size, 1, none⟩ = some (.int .u64 (d : Int)) := by rw [B1.cell]; rfl
  have x2 : w1.cell? ⟨w.heap.size, 2, none⟩ = some (.int .u64 (b : Int)) := by rw [B1.cell]; rfl
  clear k1 B0 B1
  go_wp2_with fail
  refine (HT _).out.mono ?_
  rintro e w2 ⟨rfl, k2⟩
  have K2 : Hid (∀ S, Keeps S w w2) := Lib.hid (fun S => (K1.out S).trans (k2 S))
  clear k2 x0 x1 x2
  go_wp2
  try rw [Exit.noGoto_ret]
  go_ret3
  exact ⟨rfl, K2.out⟩
set_option maxRecDepth 100000 in
set_option maxHeartbeats 4000000 in
theorem when_yes (s now k : Nat) (he : err n d b now = 0) (hs : s < 18446744073709551616) (hk : k < 18446744073709551616) (hl : lets n d b s 1099511627776 k = true) : Calls Try.prog 17 #[bv n d b, .int .u64 (s : Int), .int .u64 (now : Int), .int .u64 (k : Int)] w fun e w' => ∃ low : Nat, e = .returned (.tuple #[.int .u64 (low : Int), .bool true, .int .i64 0]) ∧ IsWhen n d b s now k low ∧ ∀ S, Keeps S w w' := by
  have HW := fun w => Lib.hid (wrong_ w n d b now)
  rw [he] at HW
  have HT := fun w => Lib.hid (take_any w n d b s 1099511627776 k (err_at he (Nat.le_refl _)) hs hk)
  have HTM := fun (t : Nat) (ht : t ≤ 1099511627776) w => Lib.hid (take_any w n d b s t k (err_at he ht) hs hk)
  rw [hl] at HT
  have hc : ((1099511627776 : Nat) : Int) = 1099511627776 := rfl
  simp only [hc] at HT
  have HNOW := Lib.hid (err_ok he).2
  have HLL := Lib.hid hl
  unfold bv at HW HT HTM ⊢
  clear he hs hk hl hc
  generalize takeOf n d b s 1099511627776 k = x at *
  go_enter Try.func17, Try.ntmps17
  go_wp2_with fail
  have B0 := Blk.new w 24 #[.int .u64 (n : Int), .int .u64 (d : Int), .int .u64 (b : Int)]
  refine (HW _).out.mono ?_
  rintro e w1 ⟨rfl, k1⟩
  have K1 : Hid (∀ S, Keeps S w w1) := Lib.hid (fun S => ((Keeps.refl S w).alloc _).trans (k1 S))
  have B1 := Blk.keeps B0 (k1 (fun _ => False)) (fun z => z)
  have x0 : w1.cell? ⟨w.heap.size, 0, none⟩ = some (.int .u64 (n : Int)) := by rw [B1.cell]; rfl
  have x1 : w1.cell? ⟨w.heap.size, 1, none⟩ = some (.int .u64 (d : Int)) := by rw [B1.cell]; rfl
  have x2 : w1.cell? ⟨w.heap.size, 2, none⟩ = some (.int .u64 (b : Int)) := by rw [B1.cell]; rfl
  clear k1 B0
  go_wp2_with fail
  refine (HT _).out.mono ?_
  rintro e w2 ⟨rfl, k2⟩
  have B2 := Blk.keeps B1 (k2 (fun _ => False)) (fun z => z)
  have V0 := Lib.hid (show (∀ S, Keeps S w w2) ∧ Blk w2 w.heap.size 24 [.int .u64 (n : Int), .int .u64 (d : Int), .int .u64 (b : Int)] from ⟨fun S => (K1.out S).trans (k2 S), B2⟩)
  clear k2 x0 x1 x2 B1 B2 K1
  go_wp2_with fail
  go_loopw [15, 16] (fun lo hi wr => ∃ x y : Nat, lo = .int .u64 (x : Int) ∧ hi = .int .u64 (y : Int) ∧ (now ≤ x ∧ x ≤ y ∧ y ≤ 1099511627776) ∧ lets n d b s y k = true ∧ (∀ t, now ≤ t → t < x → lets n d b s t k = false) ∧ (∀ S, Keeps S w wr) ∧ Blk wr w.heap.size 24 [.int .u64 (n : Int), .int .u64 (d : Int), .int .u64 (b : Int)]) (fun lo hi _ => (intOf hi - intOf lo).toNat)
  case atStart => exact ⟨now, 1099511627776, rfl, rfl, ⟨Nat.le_refl _, HNOW.out, Nat.le_refl _⟩, HLL.out, fun t h1 h2 => by omega, V0.out⟩
  case round =>
    clear V0 HT
    obtain ⟨x', y', rfl, rfl, ⟨hx1, hx2, hy⟩, hyes, hno, hkk, hb⟩ := hrel
    have HB := Lib.hid hb
    have HK : Hid (∀ S, Keeps S w wr) := Lib.hid hkk
    have HY := Lib.hid hyes
    have HNO := Lib.hid hno
    have HXY := Lib.hid (show now ≤ x' ∧ x' ≤ y' ∧ y' ≤ 1099511627776 from ⟨hx1, hx2, hy⟩)
    rcases Nat.lt_or_ge x' y' with hlt | hlt
    · have hlt' : (x' : Int) < (y' : Int) := by omega
      obtain ⟨m, hm⟩ : ∃ m, m = x' + (y' - x') / 2 := ⟨_, rfl⟩
      have HT := fun w => Lib.hid (HTM m (by omega) w).out
      have x0 : wr.cell? ⟨w.heap.size, 0, none⟩ = some (.int .u64 (n : Int)) := by rw [hb.cell]; rfl
      have x1 : wr.cell? ⟨w.heap.size, 1, none⟩ = some (.int .u64 (d : Int)) := by rw [hb.cell]; rfl
      have x2 : wr.cell? ⟨w.heap.size, 2, none⟩ = some (.int .u64 (b : Int)) := by rw [hb.cell]; rfl
      have HLT := Lib.hid (show x' < y' ∧ m = x' + (y' - x') / 2 from ⟨hlt, hm⟩)
      have HM := Lib.hid (show IntKind.u64.wrap ((x' : Int) + IntKind.u64.wrap ((IntKind.u64.wrap ((y' : Int) - (x' : Int))).tdiv 2)) = (m : Int) by
        rw [wrap_u64, wrap_u64, wrap_u64, show ((y' : Int) - (x' : Int)) % 18446744073709551616 = ((y' - x' : Nat) : Int) by omega, Int.tdiv_eq_ediv_of_nonneg (Int.natCast_nonneg _)]
        omega)
      have HM1 := Lib.hid (show IntKind.u64.wrap ((m : Int) + 1) = ((m + 1 : Nat) : Int) by rw [wrap_u64]; omega)
      clear hx1 hx2 hy hyes hno hkk hb hlt hm
      generalize hz : takeOf n d b s m k = z at *
      clear hz
      cases hl : lets n d b s m k
      · rw [hl] at HT
        have HL := Lib.hid hl
        clear hl
        go_wp2_with fail
        rw [HM.out]
        refine (HT _).out.mono ?_
        rintro e w3 ⟨rfl, k3⟩
        have HK3 : Hid (∀ S, Keeps S w w3) := Lib.hid (fun S => (HK.out S).trans (k3 S))
        have HB3 := Lib.hid (Blk.keeps HB.out (k3 (fun _ => False)) (fun z => z))
        clear k3 x0 x1 x2
        go_wp2_with fail
        go_roundw
        case rel =>
          have hf : ∀ t, now ≤ t → t < m + 1 → lets n d b s t k = false := by
            intro t h1 h2
            cases hq : lets n d b s t k
            · rfl
            · have := lets_mono (show t ≤ m by omega) hq
              rw [HL.out] at this
              cases this
          exact ⟨m + 1, y', by rw [HM1.out], rfl, by have h1 := HXY.out; have h2 := HLT.out; omega, HY.out, hf, HK3.out, HB3.out⟩
        case measure => have h1 := HXY.out; have h2 := HLT.out; rw [HM1.out]; simp only [intOf]; omega
      · rw [hl] at HT
        have HL := Lib.hid hl
        clear hl
        go_wp2_with fail
        rw [HM.out]
        refine (HT _).out.mono ?_
        rintro e w3 ⟨rfl, k3⟩
        have HK3 : Hid (∀ S, Keeps S w w3) := Lib.hid (fun S => (HK.out S).trans (k3 S))
        have HB3 := Lib.hid (Blk.keeps HB.out (k3 (fun _ => False)) (fun z => z))
        clear k3 x0 x1 x2
        go_wp2_with fail
        go_roundw
        case rel => exact ⟨x', m, rfl, rfl, by have h1 := HXY.out; have h2 := HLT.out; omega, HL.out, HNO.out, HK3.out, HB3.out⟩
        case measure => have h1 := HXY.out; have h2 := HLT.out; simp only [intOf]; omega
    · have hlt' : ¬ (x' : Int) < (y' : Int) := by omega
      clear hx1 hx2 hy hyes hno hkk hb
      go_wp2
      try rw [Exit.noGoto_ret]
      go_ret3
      have he : x' = y' := by have := HXY.out; omega
      exact ⟨x', rfl, ⟨HXY.out.1, by have := HXY.out; omega, by rw [he]; exact HY.out, HNO.out⟩, HK.out⟩
end
end Go.Proofs.Ytbiadglhfpapaaa.bk
