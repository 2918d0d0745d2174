/-
  Two lists of the same bytes are found the same.
-/
import Derived.Test.YtbnkmfmbbbcogaaRows
import Derived.Test.YtbnkmfmbbbcogaaOcB
import Derived.WalkLawsBesides
import Derived.WalkSpells
import Derived.Outline
import Derived.Lib.Hide
import Derived.Deep.QuietTactic
import Derived.BigQuiet
namespace Go.Proofs.Ytbnkmfmbbbcogaa.oc
open Go.RowKit

theorem same_yes (A A' : Option Addr) (bs : List Nat) (n c c' B B' : Nat) (w : World) (hn : bs.length = n) (hm : n ≤ 140737488355328) (hr : Rd w B A (by_ bs)) (hr' : Rd w B' A' (by_ bs)) :
    Calls Try.prog 18 #[.slice A n c, .slice A' n c'] w fun e w' => e = .returned (.bool true) ∧ ∃ d, w.drewN d = w' := by
  have HN := Lib.hid hn
  clear hn
  go_enter Try.func18, Try.ntmps18
  go_wp2
  go_loopw [5] (fun i wr => ∃ k d : Nat, k ≤ n ∧ i = .int .i64 k ∧ w.drewN d = wr) (fun i _ => n - (intOf i).toNat)
  case atStart => exact ⟨0, 0, Nat.zero_le _, rfl, rfl⟩
  case round =>
    obtain ⟨k, d, hk, rfl, rfl⟩ := hrel
    by_cases hlt : k < n
    · have hx := getq (bs := bs) (k := k) (by rw [HN.out]; exact hlt)
      obtain ⟨b, o, rfl, hb, hc⟩ := hr.byte hx
      obtain ⟨b', o', rfl, hb', hc'⟩ := hr'.byte hx
      have hlt' : (k : Int) < (n : Int) := by omega
      have h0 : (0 : Int) ≤ (k : Int) := by omega
      clear hx
      generalize bs.getD k 0 = x at *
      go_wp2
      go_quiet (fail)
      go_wp2
      go_roundw
      case rel => exact ⟨k + 1, d + nq, by omega, by go_num, rfl⟩
      case measure => simp [intOf]; omega
    · go_wp2
      go_ret
      exact ⟨rfl, d, rfl⟩
end Go.Proofs.Ytbnkmfmbbbcogaa.oc
