/-
  Bytes as a number, walked.
-/
import Derived.Test.YtidengmcbppcoaaRows
import Derived.Test.YtidengmcbppcoaaOcB
import Derived.WalkLawsBesides
import Derived.WalkSpells
import Derived.Outline
import Derived.Lib.Hide
namespace Go.Proofs.Ytidengmcbppcoaa.oc
open Go.RowKit
theorem number_any (A : Option Addr) (bs : List Nat) (n c B : Nat) (w : World) (hn : bs.length = n) (h8 : n ≤ 8) (hs : Small bs) (hr : Rd w B A (by_ bs)) :
    Calls Try.prog 73 #[.slice A n c] w fun e w' => e = .returned (.int .u64 (num bs : Nat)) ∧ w = w' := by
  have HN := Lib.hid hn
  clear hn
  go_enter Try.func73, Try.ntmps73
  go_wp2
  go_loop [3, 4] (fun v i => ∃ k : Nat, k ≤ n ∧ i = .int .i64 k ∧ v = .int .u64 (num (bs.take k) : Nat)) (fun _ i => n - (intOf i).toNat)
  case atStart => exact ⟨0, Nat.zero_le _, rfl, rfl⟩
  case round =>
    obtain ⟨k, hk, rfl, rfl⟩ := hrel
    by_cases hlt : k < n
    · have hx := getq (bs := bs) (k := k) (by rw [HN.out]; exact hlt)
      have hx8 := hs.at_ hx
      obtain ⟨b, o, rfl, hb, hc⟩ := hr.byte hx
      have hsn := num_snoc (bs.take k) (bs.getD k 0)
      rw [← take_snoc hx] at hsn
      have hbd := num_lt8 (bs.take (k + 1)) (hs.take _) (by rw [List.length_take]; omega)
      rw [hsn] at hbd
      have HS := Lib.hid hsn
      clear hsn hx
      generalize num (bs.take k) = m at *
      generalize bs.getD k 0 = x at *
      go_wp2
      go_round
      case rel => exact ⟨k + 1, by omega, by go_num, by rw [HS.out]; go_num⟩
      case measure => simp [intOf]; omega
    · go_wp2
      go_ret
      exact ⟨ret_int (by rw [List.take_of_length_le (by rw [HN.out]; omega)]), rfl⟩
end Go.Proofs.Ytidengmcbppcoaa.oc
