/-
  The document's own sum and hash of bytes, walked.
-/
import Derived.Test.YtbnkmfmbbbcogaaRows
import Derived.Test.YtbnkmfmbbbcogaaOcH
import Derived.Test.YtbnkmfmbbbcogaaOcFold
import Derived.WalkLawsBesides
import Derived.WalkSpells
import Derived.Outline
import Derived.Lib.Hide
namespace Go.Proofs.Ytbnkmfmbbbcogaa.oc
open Go.RowKit

theorem rsum_any (A : Option Addr) (bs : List Nat) (n c B : Nat) (w : World) (hn : bs.length = n) (hm : n ≤ 140737488355328) (hs : Small bs) (hr : Rd w B A (by_ bs)) :
    Calls Try.prog 30 #[.slice A n c] w fun e w' => e = .returned (.int .u16 (csum bs : Nat)) ∧ w = w' := by
  have HN := Lib.hid hn
  clear hn
  go_enter Try.func30, Try.ntmps30
  go_wp2
  go_loop [3, 4] (fun t i => ∃ k : Nat, k ≤ n ∧ i = .int .i64 k ∧ t = .int .u64 (tot (bs.take k) : Nat)) (fun _ i => n - (intOf i).toNat)
  case atStart => exact ⟨0, Nat.zero_le _, rfl, rfl⟩
  case round =>
    obtain ⟨k, hk, rfl, rfl⟩ := hrel
    by_cases hlt : k < n
    · have hlen : bs.length = n := HN.out
      have hx := getq (bs := bs) (k := k) (by omega)
      obtain ⟨b, o, rfl, hb, hc⟩ := hr.byte hx
      have hx8 := hs.at_ hx
      have ht := tot_le _ (hs.take k)
      have hl : (bs.take k).length = k := by rw [List.length_take]; omega
      have htk := take_snoc hx
      rw [hl] at ht
      clear hlen
      by_cases hp : k % 2 = 0
      · have hsn := (tot_true (st_even (bs := bs.take k) (by rw [hl]; exact hp)) (bs.getD k 0)).1
        rw [← htk] at hsn
        have HS := Lib.hid hsn
        clear hsn htk hl hx
        generalize tot (bs.take k) = t at *
        generalize bs.getD k 0 = x at *
        have hq : ((k : Int) % 2 == 0) = true := beq_iff_eq.2 (by omega)
        clear hp
        go_wp2
        go_round
        case rel => exact ⟨k + 1, by omega, by go_num, by rw [HS.out]; go_num⟩
        case measure => simp [intOf]; omega
      · have hsn := (tot_false (st_odd (bs := bs.take k) (by rw [hl]; omega)) (bs.getD k 0)).1
        rw [← htk] at hsn
        have HS := Lib.hid hsn
        clear hsn htk hl hx
        generalize tot (bs.take k) = t at *
        generalize bs.getD k 0 = x at *
        have hq : ((k : Int) % 2 == 0) = false := beq_eq_false_iff_ne.2 (by omega)
        clear hp
        go_wp2
        go_round
        case rel => exact ⟨k + 1, by omega, by go_num, by rw [HS.out]; go_num⟩
        case measure => simp [intOf]; omega
    · have ht := tot_le bs hs
      rw [List.take_of_length_le (by rw [HN.out]; omega)]
      rw [HN.out] at ht
      have hci := csum_int bs
      have HC := Lib.hid hci
      clear hci
      have hfb := fold_le (tot bs)
      go_wp2_with (go_at_call 46; refine (rfold_nat _ _ (by omega)).mono ?_; rintro e w' ⟨rfl, rfl⟩)
      go_ret
      exact ⟨ret_int HC.out, rfl⟩

theorem rhash_any (A : Option Addr) (bs : List Nat) (n c B : Nat) (w : World) (hn : bs.length = n) (hm : n ≤ 140737488355328) (hs : Small bs) (hr : Rd w B A (by_ bs)) :
    Calls Try.prog 32 #[.slice A n c] w fun e w' => e = .returned (.int .u64 (fnv bs : Nat)) ∧ w = w' := by
  have HN := Lib.hid hn
  clear hn
  go_enter Try.func32, Try.ntmps32
  go_wp2
  go_loop [3, 4] (fun t i => ∃ k : Nat, k ≤ n ∧ i = .int .i64 k ∧ t = .int .u64 (fnv (bs.take k) : Nat)) (fun _ i => n - (intOf i).toNat)
  case atStart => exact ⟨0, Nat.zero_le _, rfl, rfl⟩
  case round =>
    obtain ⟨k, hk, rfl, rfl⟩ := hrel
    by_cases hlt : k < n
    · have hx := getq (bs := bs) (k := k) (by rw [HN.out]; exact hlt)
      obtain ⟨b, o, rfl, hb, hc⟩ := hr.byte hx
      have hx8 := hs.at_ hx
      have hsn : fnv (bs.take (k + 1)) = hstep (fnv (bs.take k)) (bs.getD k 0) := by rw [take_snoc hx, fnv_snoc]
      have ht := fnv_lt (bs.take k)
      have HS := Lib.hid hsn
      clear hsn hx
      generalize fnv (bs.take k) = q at *
      generalize bs.getD k 0 = x at *
      have ex := u64_xor_nat q x ht (by omega)
      go_wp2
      go_round
      case rel => exact ⟨k + 1, by omega, by go_num, by rw [HS.out, ← hstep_int]⟩
      case measure => simp [intOf]; omega
    · go_wp2
      go_ret
      exact ⟨ret_int (by rw [List.take_of_length_le (by rw [HN.out]; omega)]), rfl⟩
end Go.Proofs.Ytbnkmfmbbbcogaa.oc
