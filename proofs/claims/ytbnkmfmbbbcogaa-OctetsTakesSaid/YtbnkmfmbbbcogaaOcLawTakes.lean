/-
  The law OctetsTakes, walked.
-/
import Derived.Test.YtbnkmfmbbbcogaaOcTaken
import Derived.Test.YtbnkmfmbbbcogaaOcOpen
namespace Go.Proofs.Ytbnkmfmbbbcogaa.oc
open Go.RowKit

set_option maxRecDepth 100000 in
set_option maxHeartbeats 1000000 in
theorem walk_octetsTakes (w : World) (A : Option Addr) (n c : Nat) (bs : List Nat) (h : IsNums .u8 256 w A n c bs) (hc : c ≤ 140737488351232) (p : Int) (_p0 : -9223372036854775808 ≤ p) (_p1 : p ≤ 9223372036854775807) :
    Calls Try.prog 4 #[.slice A n c, .int .i64 p] w fun e w' => e = .returned (.bool true) ∧ Below w.heap.size w w' := by
  obtain ⟨hn, hnc, hs, hr⟩ := h.bytes
  have HN := Lib.hid hn
  have hn0 : n ≤ 140737488355328 := by omega
  have hc0 : c ≤ 140737488355328 := by omega
  clear hn
  go_enter Try.func4, Try.ntmps4
  go_wp2
  go_loop [5] (fun i => ∃ k : Nat, k ≤ 40 ∧ i = .int .i64 k) (fun i => 40 - (intOf i).toNat)
  case atStart => exact ⟨0, by omega, rfl⟩
  case round =>
    obtain ⟨k, hk, rfl⟩ := hrel
    by_cases hlt : k < 40
    · by_cases h0 : k = 0
      · subst h0
        have t1 := tv_lt hs (p) 1
        have t2 := tv_lt hs (p) 2
        have t4 := tv_lt hs (p) 4
        have t8 := tv_lt hs (p) 8
        go_wp2_with (first
          | (go_at_call 23; (with_reducible refine (take8_any A bs n c _ (p) _ HN.out hn0 hnc hc0 hs hr).mono ?_); rintro e w' ⟨rfl, rfl⟩)
          | (go_at_call 24; (with_reducible refine (take16_any A bs n c _ (p) _ HN.out hn0 hnc hc0 hs hr).mono ?_); rintro e w' ⟨rfl, rfl⟩)
          | (go_at_call 25; (with_reducible refine (take32_any A bs n c _ (p) _ HN.out hn0 hnc hc0 hs hr).mono ?_); rintro e w' ⟨rfl, rfl⟩)
          | (go_at_call 26; (with_reducible refine (take64_any A bs n c _ (p) _ HN.out hn0 hnc hc0 hs hr).mono ?_); rintro e w' ⟨rfl, rfl⟩)
          | (go_at_call 27; (with_reducible refine (takeOwn_any A bs n c _ (p) _ HN.out hn0 hnc hc0 hs hr).mono ?_); rintro e w' ⟨rfl, rfl⟩)
          | (go_at_call 28; (with_reducible refine (taken1_at A bs n c _ (p) _ HN.out hn0 hnc hc0 hs hr).mono ?_); rintro e w' ⟨rfl, rfl⟩)
          | (go_at_call 28; (with_reducible refine (taken2_at A bs n c _ (p) _ HN.out hn0 hnc hc0 hs hr).mono ?_); rintro e w' ⟨rfl, rfl⟩)
          | (go_at_call 28; (with_reducible refine (taken4_at A bs n c _ (p) _ HN.out hn0 hnc hc0 hs hr).mono ?_); rintro e w' ⟨rfl, rfl⟩)
          | (go_at_call 28; (with_reducible refine (taken8_at A bs n c _ (p) _ HN.out hn0 hnc hc0 hs hr).mono ?_); rintro e w' ⟨rfl, rfl⟩))
        go_round
        case rel => exact ⟨1, by omega, rfl⟩
        case measure => simp [intOf]
      · have h1 : (0 : Int) < (k : Int) := by omega
        have t1 := tv_lt hs ((k : Int) - 3) 1
        have t2 := tv_lt hs ((k : Int) - 3) 2
        have t4 := tv_lt hs ((k : Int) - 3) 4
        have t8 := tv_lt hs ((k : Int) - 3) 8
        go_wp2_with (first
          | (go_at_call 23; (with_reducible refine (take8_any A bs n c _ ((k : Int) - 3) _ HN.out hn0 hnc hc0 hs hr).mono ?_); rintro e w' ⟨rfl, rfl⟩)
          | (go_at_call 24; (with_reducible refine (take16_any A bs n c _ ((k : Int) - 3) _ HN.out hn0 hnc hc0 hs hr).mono ?_); rintro e w' ⟨rfl, rfl⟩)
          | (go_at_call 25; (with_reducible refine (take32_any A bs n c _ ((k : Int) - 3) _ HN.out hn0 hnc hc0 hs hr).mono ?_); rintro e w' ⟨rfl, rfl⟩)
          | (go_at_call 26; (with_reducible refine (take64_any A bs n c _ ((k : Int) - 3) _ HN.out hn0 hnc hc0 hs hr).mono ?_); rintro e w' ⟨rfl, rfl⟩)
          | (go_at_call 27; (with_reducible refine (takeOwn_any A bs n c _ ((k : Int) - 3) _ HN.out hn0 hnc hc0 hs hr).mono ?_); rintro e w' ⟨rfl, rfl⟩)
          | (go_at_call 28; (with_reducible refine (taken1_at A bs n c _ ((k : Int) - 3) _ HN.out hn0 hnc hc0 hs hr).mono ?_); rintro e w' ⟨rfl, rfl⟩)
          | (go_at_call 28; (with_reducible refine (taken2_at A bs n c _ ((k : Int) - 3) _ HN.out hn0 hnc hc0 hs hr).mono ?_); rintro e w' ⟨rfl, rfl⟩)
          | (go_at_call 28; (with_reducible refine (taken4_at A bs n c _ ((k : Int) - 3) _ HN.out hn0 hnc hc0 hs hr).mono ?_); rintro e w' ⟨rfl, rfl⟩)
          | (go_at_call 28; (with_reducible refine (taken8_at A bs n c _ ((k : Int) - 3) _ HN.out hn0 hnc hc0 hs hr).mono ?_); rintro e w' ⟨rfl, rfl⟩))
        go_round
        case rel => exact ⟨k + 1, by omega, by go_num⟩
        case measure => simp [intOf]; omega
    · go_wp2_with (go_at_call 22; refine (works_any _).mono ?_; rintro e w' ⟨rfl, hb⟩)
      go_ret
      exact ⟨rfl, hb⟩
end Go.Proofs.Ytbnkmfmbbbcogaa.oc
