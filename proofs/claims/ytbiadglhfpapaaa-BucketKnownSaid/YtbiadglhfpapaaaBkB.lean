/-
  patchbaylaw12's right, tokens.
-/
import Derived.Test.YtbiadglhfpapaaaBkA
set_option linter.unusedVariables false
namespace Go.Proofs.Ytbiadglhfpapaaa.bk
open Go.RowKit Go.Proofs.Ytbiadglhfpapaaa.oc Go.Proofs.Ytbiadglhfpapaaa.mz
section
variable (w : World) (n d b : Nat)
set_option maxRecDepth 100000 in
set_option maxHeartbeats 1000000 in
theorem right_ : Calls Try.prog 28 #[bv n d b] w fun e w' => e = .returned (bv (n % 65536 + 1) (d % 65536 + 1) (b % 1048576 + 1)) ∧ ∀ S, Keeps S w w' := by
  have HB := Lib.hid (Blk.new (w.alloc (.cells #[.int .u64 (n : Int), .int .u64 (d : Int), .int .u64 (b : Int)] 24)) 24 #[.int .u64 ((n : Int) % 65536 + 1), .int .u64 ((d : Int) % 65536 + 1), .int .u64 ((b : Int) % 1048576 + 1)])
  have e1 : ((n % 65536 + 1 : Nat) : Int) = (n : Int) % 65536 + 1 := by omega
  have e2 : ((d % 65536 + 1 : Nat) : Int) = (d : Int) % 65536 + 1 := by omega
  have e3 : ((b % 1048576 + 1 : Nat) : Int) = (b : Int) % 1048576 + 1 := by omega
  unfold bv
  rw [e1, e2, e3]
  clear e1 e2 e3
  go_enter Try.func28, Try.ntmps28
  go_wp2
  have hb := HB.out
  rw [World.size_alloc] at hb
  have r0 := hb.cell 0
  have r1 := hb.cell 1
  have r2 := hb.cell 2
  refine bodyPost_ret (v := .agg #[.int .u64 ((n : Int) % 65536 + 1), .int .u64 ((d : Int) % 65536 + 1), .int .u64 ((b : Int) % 1048576 + 1)]) (by simp [results, Try.results28, go_sem, r0, r1, r2]) rfl ⟨rfl, fun S => ((Keeps.refl S w).alloc _).alloc _⟩
set_option maxRecDepth 100000 in
set_option maxHeartbeats 2000000 in
theorem tokens_ (A : Option Addr) (m c f t : Nat) (l : List (Nat × Nat)) (ha : Asks w w.heap.size A l) (hl : l.length = m) (hm9 : m ≤ 100000000000000) (hs : ∀ k, k ≤ m → sumIn l f t k < 18446744073709551616) : Calls Try.prog 29 #[.slice A m c, .int .u64 (f : Int), .int .u64 (t : Int)] w fun e w' => e = .returned (.int .u64 ((sumIn l f t m : Nat) : Int)) ∧ w = w' := by
  have HA := Lib.hid ha
  have HL := Lib.hid hl
  have HS := Lib.hid hs
  have HM := Lib.hid hm9
  have hm9' : (m : Int) ≤ 100000000000000 := by omega
  clear ha hl hs hm9
  go_enter Try.func29, Try.ntmps29
  go_wp2_with fail
  go_loopw [7, 8] (fun ni ki wr => ∃ k : Nat, k ≤ m ∧ ni = .int .u64 ((sumIn l f t k : Nat) : Int) ∧ ki = .int .i64 (k : Int) ∧ w = wr) (fun _ ki _ => m + 1 - (intOf ki).toNat)
  case atStart => exact ⟨0, Nat.zero_le _, rfl, rfl, rfl⟩
  case round =>
    obtain ⟨k, hk, rfl, rfl, rfl⟩ := hrel
    have HK := Lib.hid hk
    have k0 : (0 : Int) ≤ (k : Int) := by omega
    rcases Nat.lt_or_ge k m with hkm | hkm
    · have k1 : (k : Int) < (m : Int) := by omega
      have k2 : (k : Int) ≤ 100000000000000 := by omega
      obtain ⟨pp, hp⟩ : ∃ pp, l[k]? = some pp := ⟨_, List.getElem?_eq_getElem (by have := HL.out; omega)⟩
      obtain ⟨b, o, rfl, hb, c1, c2⟩ := HA.out.at_ hp
      obtain ⟨P1, P2⟩ := pp
      simp only at c1 c2
      have hstep : sumIn l f t (k + 1) = sumIn l f t k + (if f ≤ P1 ∧ P1 ≤ t then P2 else 0) := by rw [sumIn, List.getD_eq_getElem?_getD, hp]; rfl
      have HSM := Lib.hid ((HS.out (k + 1)) (by omega))
      have HKM := Lib.hid hkm
      have HST := Lib.hid hstep
      by_cases hin : f ≤ P1 ∧ P1 ≤ t
      · rw [if_pos hin] at hstep
        have HS2 := Lib.hid hstep
        have q3 : (f : Int) ≤ (P1 : Int) := by omega
        have q4 : (P1 : Int) ≤ (t : Int) := by omega
        have hw : ((sumIn l f t k : Nat) : Int) + (P2 : Int) < 18446744073709551616 := by have := HSM.out; omega
        clear hk hkm hstep hin hp hb
        go_wp2_with fail
        go_roundw
        case rel => exact ⟨k + 1, by have := HKM.out; omega, by rw [HS2.out]; go_num, by go_num, trivial⟩
        case measure => have := HKM.out; simp [intOf]; omega
      · rw [if_neg hin, Nat.add_zero] at hstep
        have HS2 := Lib.hid hstep
        have q3 : ¬ (f : Int) ≤ (P1 : Int) ∨ ((f : Int) ≤ (P1 : Int) ∧ ¬ (P1 : Int) ≤ (t : Int)) := by omega
        clear hk hkm hstep hin hp hb
        rcases q3 with q3 | ⟨q3, q4⟩
        all_goals
          go_wp2_with fail
          go_roundw
          case rel => exact ⟨k + 1, by have := HKM.out; omega, by rw [HS2.out]; rfl, by go_num, trivial⟩
          case measure => have := HKM.out; simp [intOf]; omega
    · have hke : k = m := by omega
      have k1 : ¬ (k : Int) < (m : Int) := by omega
      have HE := Lib.hid hke
      clear hk hkm hke
      go_wp2
      try rw [Exit.noGoto_ret]
      go_ret
      exact ⟨by rw [HE.out]; rfl, rfl⟩
end
end Go.Proofs.Ytbiadglhfpapaaa.bk
