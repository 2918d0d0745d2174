/-
  math/bits.Len8 and LeadingZeros8, walked: how many bits a number has.
-/
import Derived.Test.YtbnkmfmbbbcogaaRows
import Derived.Test.YtbnkmfmbbbcogaaOcW
import Derived.WalkLawsBesides
import Derived.WalkSpells
import Derived.Outline
import Derived.Lib.Strings
import Derived.Lib.Slices
import Derived.Lib.Small
import Derived.Lib.Walk
import Derived.Lib.BitFns
namespace Go.Proofs.Ytbnkmfmbbbcogaa.oc
open Go.RowKit

set_option maxRecDepth 100000 in
theorem len8_any (x : Int) (w : World) (h0 : 0 ≤ x) (h1 : x ≤ 255) :
    Calls Try.prog 49 #[.int .u8 x] w fun e w' => e = .returned (.int .i64 (Lib.bitLen x.toNat)) ∧ w = w' := by
  have hb := Lib.len8_of x h0 h1
  rw [← Lib.len8_of x h0 h1]
  have hl := Lib.bitLen_le8' x h0 h1
  have hl1 : 0 ≤ Lib.len8 x ∧ Lib.len8 x ≤ 8 := by omega
  clear hb hl
  go_enter Try.func49, Try.ntmps49
  go_wp2
  go_ret
  exact ⟨rfl, rfl⟩

theorem lead8_any (x : Int) (w : World) (h0 : 0 ≤ x) (h1 : x ≤ 255) :
    Calls Try.prog 47 #[.int .u8 x] w fun e w' => e = .returned (.int .i64 ((8 - Lib.bitLen x.toNat : Nat) : Int)) ∧ w = w' := by
  have hl := Lib.bitLen_le8' x h0 h1
  go_enter Try.func47, Try.ntmps47
  go_wp2_with (go_at_call 49; refine (len8_any _ _ (by omega) (by omega)).mono ?_; rintro e w' ⟨rfl, rfl⟩)
  go_ret
  exact ⟨ret_int (by omega), rfl⟩
end Go.Proofs.Ytbnkmfmbbbcogaa.oc
