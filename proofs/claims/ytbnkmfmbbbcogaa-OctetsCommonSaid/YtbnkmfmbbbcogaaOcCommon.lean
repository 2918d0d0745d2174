/-
  Common, walked.
-/
import Derived.Test.YtbnkmfmbbbcogaaRows
import Derived.Test.YtbnkmfmbbbcogaaOcCmn
import Derived.Test.YtbnkmfmbbbcogaaOcLen
import Derived.WalkLawsBesides
import Derived.WalkSpells
import Derived.Outline
import Derived.Lib.Hide
import Derived.Deep.QuietTactic
import Derived.BigQuiet
namespace Go.Proofs.Ytbnkmfmbbbcogaa.oc
open Go.RowKit
theorem common_any (A A' : Option Addr) (xs bs : List Nat) (n n' c c' B B' : Nat) (w : World) (hn : xs.length = n) (hn' : bs.length = n') (hm : n ≤ 140737488355328) (_hm' : n' ≤ 140737488355328)
    (hs : Small xs) (hs' : Small bs) (hr : Rd w B A (by_ xs)) (hr' : Rd w B' A' (by_ bs)) :
    Calls Try.prog 37 #[.slice A n c, .slice A' n' c'] w fun e w' => e = .returned (.int .i64 (cmn xs bs : Nat)) ∧ ∃ d, w.drewN d = w' := by
  have HN := Lib.hid hn
  have HN' := Lib.hid hn'
  clear hn hn'
  obtain ⟨m, hmm⟩ : ∃ m : Nat, m = min n n' := ⟨_, rfl⟩
  have hmi : min (n : Int) (n' : Int) = (m : Int) := by omega
  have m1 : m ≤ n := by omega
  have m2 : m ≤ n' := by omega
  have HM := Lib.hid hmm
  clear hmm
  go_enter Try.func37, Try.ntmps37
  go_wp2
  go_loopw [14, 6, 7] (fun i _ _ wr => ∃ k d : Nat, k ≤ m ∧ i = .int .i64 k ∧ cmn xs bs = 8 * k + cmn (xs.drop k) (bs.drop k) ∧ w.drewN d = wr) (fun i _ _ _ => m - (intOf i).toNat)
  case atStart => exact ⟨0, 0, Nat.zero_le _, rfl, by simp, rfl⟩
  case round =>
    obtain ⟨k, d, hk, rfl, hcm, rfl⟩ := hrel
    have HC := Lib.hid hcm
    clear hcm hmi
    by_cases hlt : k < m
    · have hx := getq (bs := xs) (k := k) (by rw [HN.out]; omega)
      have hy := getq (bs := bs) (k := k) (by rw [HN'.out]; omega)
      have hx8 := hs.at_ hx
      have hy8 := hs'.at_ hy
      obtain ⟨b, o, rfl, hb, hc⟩ := hr.byte hx
      obtain ⟨b', o', rfl, hb', hc'⟩ := hr'.byte hy
      have k0 : (0 : Int) ≤ (k : Int) := by omega
      have k1 : (k : Int) < (n : Int) := by omega
      have k2 : (k : Int) < (n' : Int) := by omega
      have HX := Lib.hid hx
      have HY := Lib.hid hy
      clear hx hy
      generalize xs.getD k 0 = x at *
      generalize bs.getD k 0 = y at *
      have hxy := u8_xor_nat x y hx8 hy8
      have hz : x ^^^ y < 256 := Nat.xor_lt_two_pow (n := 8) hx8 hy8
      by_cases he : x = y
      · subst he
        have h0 : x ^^^ x = 0 := Nat.xor_self x
        go_wp2
        go_quiet (fail)
        go_wp2
        go_roundw
        case rel => exact ⟨k + 1, d + nq, by omega, by go_num, by rw [HC.out, cmn_step HX.out HY.out]; omega, rfl⟩
        case measure => simp [intOf]; omega
      · have h0 : x ^^^ y ≠ 0 := fun h0 => he (by have e := congrArg (· ^^^ y) h0; simpa [Nat.xor_assoc] using e)
        have hst := cmn_stop HX.out HY.out he
        have HS := Lib.hid hst
        clear hst
        have hl := Lib.bitLen_le8' ((x ^^^ y : Nat) : Int) (by omega) (by omega)
        rw [Int.toNat_natCast] at hl
        generalize x ^^^ y = z at *
        have hz0 : ((z : Int) != 0) = true := by rw [bne_iff_ne]; omega
        go_wp2
        go_quiet (fail)
        go_wp2_with (go_at_call 47; refine (lead8_any _ _ (by omega) (by omega)).mono ?_; rintro e w' ⟨rfl, rfl⟩)
        go_ret
        exact ⟨ret_int (by rw [HC.out, HS.out]; omega), d + nq, rfl⟩
    · have hk' : k = m := by omega
      subst hk'
      go_wp2
      go_ret
      exact ⟨ret_int (by rw [HC.out, cmn_end (by rw [HN.out, HN'.out, ← HM.out]; exact Nat.le_refl _)]; omega), d, rfl⟩
end Go.Proofs.Ytbnkmfmbbbcogaa.oc
