/-
  How many bytes a number of each kind has.
-/
import Derived.Test.YtidengmcbppcoaaRows
import Derived.Test.YtidengmcbppcoaaOcW
import Derived.WalkLawsBesides
import Derived.WalkSpells
import Derived.Outline
import Derived.Lib.Hide
import Derived.Lib.BitFns
namespace Go.Proofs.Ytidengmcbppcoaa.oc
open Go.RowKit

theorem len8_top (y : Int) (h0 : 128 ≤ y) (h1 : y ≤ 255) : Lib.len8 y = 8 := by
  have h : ∀ n : Fin 256, 128 ≤ n.val → Lib.len8 (n.val : Int) = 8 := by decide +kernel
  have := h ⟨y.toNat, by omega⟩ (by show 128 ≤ y.toNat; omega)
  rwa [show ((⟨y.toNat, by omega⟩ : Fin 256).val : Int) = y from by show (y.toNat : Int) = y; omega] at this

theorem len64_1 (x : Int) (w : World) (h0 : 128 ≤ x) (h1 : x ≤ 255) : Calls Try.prog 78 #[.int .u64 x] w fun e w' => e = .returned (.int .i64 8) ∧ w = w' := by
  have a0 : 0 ≤ x := by omega
  have a1 : x ≤ 255 := by omega
  have a2 := len8_top (x) (by omega) (by omega)
  go_enter Try.func78, Try.ntmps78
  go_wp2
  go_ret
  exact ⟨rfl, rfl⟩

theorem len64_2 (x : Int) (w : World) (h0 : 32768 ≤ x) (h1 : x ≤ 65535) : Calls Try.prog 78 #[.int .u64 x] w fun e w' => e = .returned (.int .i64 16) ∧ w = w' := by
  have a0 : 0 ≤ x / 256 := by omega
  have a1 : x / 256 ≤ 255 := by omega
  have a2 := len8_top (x / 256) (by omega) (by omega)
  go_enter Try.func78, Try.ntmps78
  go_wp2
  go_ret
  exact ⟨rfl, rfl⟩

theorem len64_4 (x : Int) (w : World) (h0 : 2147483648 ≤ x) (h1 : x ≤ 4294967295) : Calls Try.prog 78 #[.int .u64 x] w fun e w' => e = .returned (.int .i64 32) ∧ w = w' := by
  have a0 : 0 ≤ x / 65536 / 256 := by omega
  have a1 : x / 65536 / 256 ≤ 255 := by omega
  have a2 := len8_top (x / 65536 / 256) (by omega) (by omega)
  go_enter Try.func78, Try.ntmps78
  go_wp2
  go_ret
  exact ⟨rfl, rfl⟩

theorem len64_8 (x : Int) (w : World) (h0 : 9223372036854775808 ≤ x) (h1 : x ≤ 18446744073709551615) : Calls Try.prog 78 #[.int .u64 x] w fun e w' => e = .returned (.int .i64 64) ∧ w = w' := by
  have a0 : 0 ≤ x / 4294967296 / 65536 / 256 := by omega
  have a1 : x / 4294967296 / 65536 / 256 ≤ 255 := by omega
  have a2 := len8_top (x / 4294967296 / 65536 / 256) (by omega) (by omega)
  go_enter Try.func78, Try.ntmps78
  go_wp2
  go_ret
  exact ⟨rfl, rfl⟩


theorem size16 (w : World) : Calls Try.prog 67 #[] w fun e w' => e = .returned (.int .i64 2) ∧ w = w' := by
  go_enter Try.func67, Try.ntmps67
  go_wp2_with (go_at_call 78; refine (len64_2 _ _ (by decide) (by decide)).mono ?_; rintro e w' ⟨rfl, rfl⟩)
  go_ret
  exact ⟨rfl, rfl⟩

theorem size32 (w : World) : Calls Try.prog 68 #[] w fun e w' => e = .returned (.int .i64 4) ∧ w = w' := by
  go_enter Try.func68, Try.ntmps68
  go_wp2_with (go_at_call 78; refine (len64_4 _ _ (by decide) (by decide)).mono ?_; rintro e w' ⟨rfl, rfl⟩)
  go_ret
  exact ⟨rfl, rfl⟩


end Go.Proofs.Ytidengmcbppcoaa.oc
