/-
  Bits, walked.
-/
import Derived.Test.YtbnkmfmbbbcogaaRows
import Derived.Test.YtbnkmfmbbbcogaaOcBit
import Derived.WalkLawsBesides
import Derived.WalkSpells
import Derived.Outline
import Derived.Lib.Hide
namespace Go.Proofs.Ytbnkmfmbbbcogaa.oc
open Go.RowKit
theorem bits_arg (A : Option Addr) (n c : Nat) (p m : Int) (w : World) (h : m < 0 ∨ 64 < m) :
    Calls Try.prog 35 #[.slice A n c, .int .i64 p, .int .i64 m] w fun e w' => e = .returned (.tuple #[.int .u64 0, .int .i64 2]) ∧ w = w' := by
  by_cases h0 : m < 0
  · go_enter Try.func35, Try.ntmps35
    go_wp2
    go_ret2
    exact ⟨rfl, rfl⟩
  · have h1 : 64 < m := by omega
    have h2 : 0 ≤ m := by omega
    clear h h0
    go_enter Try.func35, Try.ntmps35
    go_wp2
    go_ret2
    exact ⟨rfl, rfl⟩
theorem bits_range (A : Option Addr) (n c : Nat) (p m : Int) (w : World) (hn : n ≤ 140737488355328) (hm0 : 0 ≤ m) (hm1 : m ≤ 64) (h : p < 0 ∨ (n : Int) * 8 - m < p) :
    Calls Try.prog 35 #[.slice A n c, .int .i64 p, .int .i64 m] w fun e w' => e = .returned (.tuple #[.int .u64 0, .int .i64 5]) ∧ w = w' := by
  by_cases h0 : p < 0
  · go_enter Try.func35, Try.ntmps35
    go_wp2
    go_ret2
    exact ⟨rfl, rfl⟩
  · have h1 : (n : Int) * 8 - m < p := by omega
    have h2 : 0 ≤ p := by omega
    clear h h0
    go_enter Try.func35, Try.ntmps35
    go_wp2
    go_ret2
    exact ⟨rfl, rfl⟩
theorem bits_yes (A : Option Addr) (bs : List Nat) (n c B p m : Nat) (w : World) (hn : bs.length = n) (hn9 : n ≤ 140737488355328) (hs : Small bs) (hr : Rd w B A (by_ bs)) (hm : m ≤ 64) (hp : p + m ≤ n * 8) :
    Calls Try.prog 35 #[.slice A n c, .int .i64 p, .int .i64 m] w fun e w' => e = .returned (.tuple #[.int .u64 (bnum bs p m : Nat), .int .i64 0]) ∧ w = w' := by
  have HN := Lib.hid hn
  clear hn
  go_enter Try.func35, Try.ntmps35
  go_wp2
  go_loop [8, 9] (fun v i => ∃ j : Nat, j ≤ m ∧ i = .int .i64 ((p + j : Nat) : Int) ∧ v = .int .u64 (bnum bs p j : Nat)) (fun _ i => p + m - (intOf i).toNat)
  case atStart => exact ⟨0, Nat.zero_le _, rfl, rfl⟩
  case round =>
    obtain ⟨j, hj, rfl, rfl⟩ := hrel
    by_cases hlt : j < m
    · obtain ⟨i, hi⟩ : ∃ i, i = p + j := ⟨_, rfl⟩
      have hi1 : i < p + m := by omega
      have hi2 : i / 8 < n := by omega
      have hx := getq (bs := bs) (k := i / 8) (by rw [HN.out]; exact hi2)
      have hx8 := hs.at_ hx
      obtain ⟨b, o, rfl, hb, hc⟩ := hr.byte hx
      have hv : bnum bs p (j + 1) = bnum bs p j * 2 + bs.getD (i / 8) 0 / 2 ^ (7 - i % 8) % 2 := by rw [hi]; rfl
      rw [← hi]
      have hb64 := bnum_lt64 bs p (j + 1) (by omega)
      rw [hv] at hb64
      have HV := Lib.hid hv
      have HI := Lib.hid hi
      clear hv hi hx
      generalize bnum bs p j = v at *
      generalize bs.getD (i / 8) 0 = x at *
      go_wp2
      go_round
      case rel => exact ⟨j + 1, by omega, by rw [show p + (j + 1) = i + 1 from by rw [HI.out]; omega]; go_num, by rw [HV.out, bit_in v x _ hx8 hb64]⟩
      case measure => simp [intOf]; omega
    · have hj' : j = m := by omega
      subst hj'
      go_wp2
      go_ret2
      exact ⟨rfl, rfl⟩
end Go.Proofs.Ytbnkmfmbbbcogaa.oc
