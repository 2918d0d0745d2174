/-
  BucketWhen, walked: cases.
-/
import Derived.Test.YtbiadglhfpapaaaBpWa
import Derived.Test.YtbiadglhfpapaaaBpWb
import Derived.Test.YtbiadglhfpapaaaBpWc
import Derived.Test.YtbiadglhfpapaaaBpWd
set_option linter.unusedVariables false
namespace Go.Proofs.Ytbiadglhfpapaaa.bp
open Go.RowKit Go.Proofs.Ytbiadglhfpapaaa.oc Go.Proofs.Ytbiadglhfpapaaa.mz Go.Proofs.Ytbiadglhfpapaaa.bk
theorem when_walk (w : World) (n d b s now0 k later : Nat) (hs : s < 18446744073709551616) (hk : k < 18446744073709551616) : Calls Try.prog 5 #[bv n d b, av s now0 k, .int .u64 (later : Int)] w fun e w' => e = .returned (.bool true) ∧ ∀ S, Keeps S w w' := by
  obtain ⟨N, hN⟩ : ∃ N, N = n % 65536 + 1 := ⟨_, rfl⟩
  obtain ⟨D, hD⟩ : ∃ D, D = d % 65536 + 1 := ⟨_, rfl⟩
  obtain ⟨B, hB⟩ : ∃ B, B = b % 1048576 + 1 := ⟨_, rfl⟩
  obtain ⟨T, hT⟩ : ∃ T, T = now0 % 1099511627777 := ⟨_, rfl⟩
  have hm : May N D B := by unfold May; omega
  have hTT : T ≤ 1099511627776 := by omega
  obtain ⟨Z, Y, dd, U, P', Qd, R1, R2, M1, HN, hU, hM⟩ := nums_ex N D B s T now0 later hm hT hs
  have hlv := level_le (n := N) (d := D) (b := B) (s := s) (now := T) hm.2.1.1
  have hb2 := hm.2.2.2
  have hL := levelIs (s := s) hm hTT hs
  have hV := levelIs (s := s) hm hU hs
  have he : err N D B T = 0 := by unfold err; rw [if_pos hm, if_pos hTT]
  have hT2 := takeIs (k := M1) (r := false) hm hTT hs (by omega) (by rw [lets_level hm.2.1.1 (by omega), hM]; simp)
  have hT1 : level N D B s T = 0 → TakeIs N D B s T 1 false := fun h => takeIs hm hTT hs (by omega) (by rw [lets_level hm.2.1.1 (by omega), h]; simp)
  have hT1' : 0 < level N D B s T → TakeIs N D B s T (level N D B s T) true := fun h => takeIs hm hTT hs (by omega) (by rw [lets_level hm.2.1.1 h]; simp)
  have hisl : 0 < k → lets N D B s T k = decide (k ≤ level N D B s T) := fun h => lets_level hm.2.1.1 h
  generalize level N D B s U = V at *
  generalize level N D B s T = L at *
  have hcl : L = 0 ∨ 0 < L := by omega
  have hck : k = 0 ∨ 0 < k := by omega
  rcases when_any N D B s T k he hs hk with ⟨hl, hp⟩ | ⟨hl, low, hlow, hp⟩
  · have hf : lets N D B s T k = false := by
      cases hq : lets N D B s T k with
      | false => rfl
      | true => rw [lets_mono hTT hq] at hl; cases hl
    have hT3 := takeIs hm hTT hs hk hf
    have hW : WhenIs N D B s T k 0 false := fun w => hp w
    rcases hcl with hc | hc <;> rcases hck with hk0 | hk0
    · exact when_z_none_zero w n d b N D B L T Z Y dd U V P' Qd R1 R2 M1 s now0 k later 0 0 hN hD hB HN hL hV (hT1 hc) hT2 hT3 hW hTT hc hk0
    · exact when_z_none_some w n d b N D B L T Z Y dd U V P' Qd R1 R2 M1 s now0 k later 0 0 hN hD hB HN hL hV (hT1 hc) hT2 hT3 hW hTT hc hk0 (by have := hisl hk0; rw [hf] at this; simpa using this.symm)
    · exact when_p_none_zero w n d b N D B L T Z Y dd U V P' Qd R1 R2 M1 s now0 k later 0 0 hN hD hB HN hL hV (hT1' hc) hT2 hT3 hW hTT hc hk0
    · exact when_p_none_some w n d b N D B L T Z Y dd U V P' Qd R1 R2 M1 s now0 k later 0 0 hN hD hB HN hL hV (hT1' hc) hT2 hT3 hW hTT hc hk0 (by have := hisl hk0; rw [hf] at this; simpa using this.symm)
  · rcases Nat.lt_or_ge T low with hq | hq
    · have hf := hlow.first T (Nat.le_refl _) hq
      have hT3 := takeIs hm hTT hs hk hf
      have hT4 := takeIs hm hlow.le hs hk hlow.yes
      obtain ⟨lp, hlp⟩ : ∃ x, x + 1 = low := ⟨low - 1, by omega⟩
      have hT5 := takeIs hm (show lp ≤ 1099511627776 by have := hlow.le; omega) hs hk (hlow.first lp (by omega) (by omega))
      have hW : WhenIs N D B s T k low true := fun w => hp w
      rcases hcl with hc | hc <;> rcases hck with hk0 | hk0
      · exact when_z_later_zero w n d b N D B L T Z Y dd U V P' Qd R1 R2 M1 s now0 k later low lp hN hD hB HN hL hV (hT1 hc) hT2 hT3 hW hTT hT4 hT5 hq hlow.le hlp hc hk0
      · exact when_z_later_some w n d b N D B L T Z Y dd U V P' Qd R1 R2 M1 s now0 k later low lp hN hD hB HN hL hV (hT1 hc) hT2 hT3 hW hTT hT4 hT5 hq hlow.le hlp hc hk0 (by have := hisl hk0; rw [hf] at this; simpa using this.symm)
      · exact when_p_later_zero w n d b N D B L T Z Y dd U V P' Qd R1 R2 M1 s now0 k later low lp hN hD hB HN hL hV (hT1' hc) hT2 hT3 hW hTT hT4 hT5 hq hlow.le hlp hc hk0
      · exact when_p_later_some w n d b N D B L T Z Y dd U V P' Qd R1 R2 M1 s now0 k later low lp hN hD hB HN hL hV (hT1' hc) hT2 hT3 hW hTT hT4 hT5 hq hlow.le hlp hc hk0 (by have := hisl hk0; rw [hf] at this; simpa using this.symm)
    · have e : low = T := by have := hlow.ge; omega
      subst e
      have hf := hlow.yes
      have hT3 := takeIs hm hTT hs hk hf
      have hW : WhenIs N D B s low k low true := fun w => hp w
      rcases hcl with hc | hc <;> rcases hck with hk0 | hk0
      · exact when_z_now_zero w n d b N D B L low Z Y dd U V P' Qd R1 R2 M1 s now0 k later 0 0 hN hD hB HN hL hV (hT1 hc) hT2 hT3 hW hTT hc hk0
      · exfalso
        have := hisl hk0
        rw [hf] at this
        have h2 : k ≤ L := by simpa using this.symm
        omega
      · exact when_p_now_zero w n d b N D B L low Z Y dd U V P' Qd R1 R2 M1 s now0 k later 0 0 hN hD hB HN hL hV (hT1' hc) hT2 hT3 hW hTT hc hk0
      · exact when_p_now_some w n d b N D B L low Z Y dd U V P' Qd R1 R2 M1 s now0 k later 0 0 hN hD hB HN hL hV (hT1' hc) hT2 hT3 hW hTT hc hk0 (by have := hisl hk0; rw [hf] at this; simpa using this.symm)
end Go.Proofs.Ytbiadglhfpapaaa.bp
namespace Go.Proofs.Ytbiadglhfpapaaa.oc
open Go.RowKit Go.Proofs.Ytbiadglhfpapaaa.mz Go.Proofs.Ytbiadglhfpapaaa.bk Go.Proofs.Ytbiadglhfpapaaa.bp
theorem walk_bucketWhen (W : World) (n d b : Nat) (hn : n < 18446744073709551616) (hd : d < 18446744073709551616) (hb : b < 18446744073709551616) (s now k : Nat) (hs : s < 18446744073709551616) (hnow : now < 18446744073709551616) (hk : k < 18446744073709551616) (later : Nat) (hla : later < 18446744073709551616) : Calls Try.prog 5 #[bv n d b, av s now k, .int .u64 (later : Int)] W fun e W' => e = .returned (.bool true) ∧ Below W.heap.size W W' :=
  (when_walk W n d b s now k later hs hk).mono fun e W' ⟨he, hk⟩ => ⟨he, (hk (fun _ => False)).below⟩
end Go.Proofs.Ytbiadglhfpapaaa.oc
