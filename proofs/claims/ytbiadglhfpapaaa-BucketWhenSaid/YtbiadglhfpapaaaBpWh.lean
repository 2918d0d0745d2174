/-
  BucketWhen, walked.
-/
import Derived.Test.YtbiadglhfpapaaaBpTl
import Derived.Test.YtbiadglhfpapaaaBkB
set_option linter.unusedVariables false
namespace Go.Proofs.Ytbiadglhfpapaaa.bp
open Go.RowKit Go.Proofs.Ytbiadglhfpapaaa.oc Go.Proofs.Ytbiadglhfpapaaa.mz Go.Proofs.Ytbiadglhfpapaaa.bk
/-- what is let through, of a bucket that may be, at a tick -/
def TakeIs (n d b s t k : Nat) (r : Bool) : Prop := ∃ x : Nat, ∀ w, Calls Try.prog 12 #[bv n d b, .int .u64 (s : Int), .int .u64 (t : Int), .int .u64 (k : Int)] w fun e w' => e = .returned (.tuple #[.int .u64 (x : Int), .bool r, .int .i64 0]) ∧ ∀ S, Keeps S w w'
theorem takeIs {n d b s t k : Nat} {r : Bool} (hm : May n d b) (ht : t ≤ 1099511627776) (hs : s < 18446744073709551616) (hk : k < 18446744073709551616) (hr : lets n d b s t k = r) : TakeIs n d b s t k r := by
  subst hr
  exact ⟨_, fun w => take_said w n d b s t k hm ht hs hk⟩
def LevelIs (n d b s t l : Nat) : Prop := ∀ w, Calls Try.prog 14 #[bv n d b, .int .u64 (s : Int), .int .u64 (t : Int)] w fun e w' => e = .returned (.tuple #[.int .u64 (l : Int), .int .i64 0]) ∧ ∀ S, Keeps S w w'
theorem levelIs {n d b s t : Nat} (hm : May n d b) (ht : t ≤ 1099511627776) (hs : s < 18446744073709551616) : LevelIs n d b s t (level n d b s t) := fun w => level_ok w n d b s t (by unfold err; rw [if_pos hm, if_pos ht]) hs
def WhenIs (n d b s t k low : Nat) (r : Bool) : Prop := ∀ w, Calls Try.prog 16 #[bv n d b, .int .u64 (s : Int), .int .u64 (t : Int), .int .u64 (k : Int)] w fun e w' => e = .returned (.tuple #[.int .u64 (low : Int), .bool r, .int .i64 0]) ∧ ∀ S, Keeps S w w'
/-- the numbers of the law -/
structure Nums (N D B L T Z Y dd U V P' Qd R1 R2 M1 now0 later : Nat) : Prop where
  mod1 : (now0 : Int) % 1099511627777 = (T : Int)
  mod2 : (later : Int) % 1048576 = (Y : Int)
  sub1 : IntKind.u64.wrap (1099511627776 - (T : Int)) = (Z : Int)
  sub2 : (1099511627776 : Int) - (T : Int) = (Z : Int)
  min1 : (if (Z : Int) < (Y : Int) then (Z : Int) else (Y : Int)) = (dd : Int)
  min2 : (if (1099511627776 : Int) - (T : Int) < (later : Int) % 1048576 then (1099511627776 : Int) - (T : Int) else (later : Int) % 1048576) = (dd : Int)
  add1 : IntKind.u64.wrap ((T : Int) + (dd : Int)) = (U : Int)
  add5 : (T : Int) + (dd : Int) = (U : Int)
  mul1 : IntKind.u64.wrap ((dd : Int) * (N : Int)) = (P' : Int)
  div1 : IntKind.u64.wrap ((P' : Int).tdiv (D : Int)) = (Qd : Int)
  div2 : IntKind.u64.wrap ((P' : Int) / (D : Int)) = (Qd : Int)
  add2 : IntKind.u64.wrap ((L : Int) + (Qd : Int)) = (R1 : Int)
  add3 : IntKind.u64.wrap ((R1 : Int) + 1) = (R2 : Int)
  add4 : IntKind.u64.wrap ((L : Int) + 1) = (M1 : Int)
  le1 : (L : Int) ≤ (B : Int)
  le2 : (L : Int) ≤ (V : Int)
  le3 : (V : Int) ≤ (R2 : Int)
  d0 : ¬ (D : Int) = 0
  d1 : ((D : Int) == 0) = false
  d2 : ¬ D = 0
set_option maxHeartbeats 1000000 in
theorem nums_ex (N D B s T now0 later : Nat) (hm : May N D B) (hT : T = now0 % 1099511627777) (hs : s < 18446744073709551616) : ∃ Z Y dd U P' Qd R1 R2 M1 : Nat, Nums N D B (level N D B s T) T Z Y dd U (level N D B s U) P' Qd R1 R2 M1 now0 later ∧ U ≤ 1099511627776 ∧ M1 = level N D B s T + 1 := by
  obtain ⟨⟨n0, n1⟩, ⟨d0, d1⟩, b0, b1⟩ := hm
  obtain ⟨Y, hY⟩ : ∃ Y, Y = later % 1048576 := ⟨_, rfl⟩
  obtain ⟨Z, hZ⟩ : ∃ Z, Z = 1099511627776 - T := ⟨_, rfl⟩
  obtain ⟨dd, hd⟩ : ∃ dd, dd = min Y Z := ⟨_, rfl⟩
  obtain ⟨P', hP⟩ : ∃ P', P' = dd * N := ⟨_, rfl⟩
  have hPle : dd * N ≤ 1048576 * 65536 := Nat.mul_le_mul (by omega) n1
  obtain ⟨Qd, hQ⟩ : ∃ Q, Q = P' / D := ⟨_, rfl⟩
  have hQle : P' / D ≤ P' := Nat.div_le_self _ _
  have hl := level_le (n := N) (d := D) (b := B) (s := s) (now := T) (by omega)
  have hmo := level_mono (n := N) (d := D) (b := B) (s := s) (show T ≤ T + dd by omega)
  have hfl := level_flow (n := N) (d := D) (b := B) (s := s) (t := T) (e := dd) (by omega)
  obtain ⟨U, hU⟩ : ∃ U, U = T + dd := ⟨_, rfl⟩
  rw [← hP, ← hQ] at hfl
  rw [← hU] at hfl hmo
  rw [← hP] at hPle
  rw [← hQ] at hQle
  generalize level N D B s T = L at *
  refine ⟨Z, Y, dd, U, P', Qd, L + Qd, L + Qd + 1, L + 1, ⟨?_, ?_, ?_, ?_, ?_, ?_, ?_, ?_, ?_, ?_, ?_, ?_, ?_, ?_, ?_, ?_, ?_, ?_, ?_, ?_⟩, ?_, rfl⟩
  · omega
  · omega
  · rw [IntKind.wrap_u64]; omega
  · omega
  · split <;> omega
  · split <;> omega
  · rw [IntKind.wrap_u64]; omega
  · omega
  · rw [mul_, ← hP, wrap_ _ (by omega)]
  · rw [Int.tdiv_eq_ediv_of_nonneg (Int.natCast_nonneg _), ← Int.natCast_ediv, ← hQ, wrap_ _ (by omega)]
  · rw [← Int.natCast_ediv, ← hQ, wrap_ _ (by omega)]
  · rw [IntKind.wrap_u64]; omega
  · rw [IntKind.wrap_u64]; omega
  · rw [IntKind.wrap_u64]; omega
  · omega
  · omega
  · omega
  · omega
  · simp; omega
  · omega
  · omega
/-- which of its cases -/
def OneOf (L T low k : Nat) (zero none now some : Bool) : Prop := True
end Go.Proofs.Ytbiadglhfpapaaa.bp
