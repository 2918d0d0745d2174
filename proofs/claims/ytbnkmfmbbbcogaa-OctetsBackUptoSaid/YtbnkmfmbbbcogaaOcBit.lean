/-
  Bits of bytes: plain words.
-/
import Derived.Test.YtbnkmfmbbbcogaaOcB
namespace Go.Proofs.Ytbnkmfmbbbcogaa.oc
/-- bit i of bytes, the highest of each byte first -/
def bitAt (bs : List Nat) (i : Nat) : Nat := bs.getD (i / 8) 0 / 2 ^ (7 - i % 8) % 2
/-- n bits from the bit p on, as a number -/
def bnum (bs : List Nat) (p : Nat) : Nat → Nat
  | 0 => 0
  | n + 1 => bnum bs p n * 2 + bitAt bs (p + n)
theorem bitAt_lt (bs : List Nat) (i : Nat) : bitAt bs i < 2 := Nat.mod_lt _ (by omega)
theorem bnum_lt (bs : List Nat) (p n : Nat) : bnum bs p n < 2 ^ n := by
  induction n with
  | zero => simp [bnum]
  | succ n ih =>
    have := bitAt_lt bs (p + n)
    rw [bnum, Nat.pow_succ]
    omega
theorem bnum_lt64 (bs : List Nat) (p n : Nat) (h : n ≤ 64) : bnum bs p n < 18446744073709551616 :=
  Nat.lt_of_lt_of_le (bnum_lt bs p n) (Nat.pow_le_pow_right (by omega) h)
theorem or_bit (m x : Nat) (hx : x < 2) (hm : m * 2 + x < 18446744073709551616) : bits .or .u64 ((m : Int) * 2) (x : Int) = (m : Int) * 2 + (x : Int) := by
  have e := u64_or_nat (m * 2) x (Nat.lt_of_le_of_lt (Nat.le_add_right _ _) hm) (Nat.lt_of_le_of_lt (Nat.le_add_left _ _) hm)
  rw [nat_join 1 (m * 2) x (Nat.mul_mod_left m (2 ^ 1)) hx] at e
  rw [show (m : Int) * 2 = ((m * 2 : Nat) : Int) from by omega, e]
  omega
theorem and_bit (x r : Nat) (hx : x < 256) : bits .and .u8 ((x : Int) / 2 ^ r) 1 = ((x / 2 ^ r % 2 : Nat) : Int) := by
  have e : ((x : Int) / 2 ^ r) = ((x / 2 ^ r : Nat) : Int) := by rw [Int.natCast_ediv, Int.natCast_pow]; rfl
  have h : x / 2 ^ r < 256 := Nat.lt_of_le_of_lt (Nat.div_le_self _ _) hx
  rw [e, show (1 : Int) = ((1 : Nat) : Int) from rfl, u8_and_nat _ _ h (by omega), nat_mask1]
theorem bit_in (v x r : Nat) (hx : x < 256) (hv : v * 2 + x / 2 ^ r % 2 < 18446744073709551616) :
    bits .or .u64 ((v : Int) * 2) (IntKind.u64.wrap (bits .and .u8 ((x : Int) / 2 ^ r) 1)) = ((v * 2 + x / 2 ^ r % 2 : Nat) : Int) := by
  rw [and_bit x r hx, IntKind.wrap_u64]
  generalize hy : x / 2 ^ r % 2 = y at *
  have hy2 : y < 2 := by rw [← hy]; exact Nat.mod_lt _ (by omega)
  rw [show ((y : Nat) : Int) % 18446744073709551616 = (y : Int) from by omega, or_bit v y hy2 hv]
  omega
end Go.Proofs.Ytbnkmfmbbbcogaa.oc
