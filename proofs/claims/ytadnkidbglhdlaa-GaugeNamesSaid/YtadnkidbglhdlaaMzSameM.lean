/-
  SameMarks of lists that are one.
-/
import Derived.Test.YtadnkidbglhdlaaMzBase
import Derived.WalkLawsBesides
import Derived.IntWalk
import Derived.Outline
import Derived.Lib.Hide
import Derived.WalkSpells
import Derived.Deep.QuietTactic
import Derived.BigQuiet
set_option linter.unusedVariables false
namespace Go.Proofs.Ytadnkidbglhdlaa.mz
open Go.RowKit Go.Proofs.Ytadnkidbglhdlaa.oc
set_option maxHeartbeats 2000000 in
theorem same_marks (A A' : Option Addr) (l : List (Nat × Nat)) (n c c' B B' : Nat) (w : World) (hn : l.length = n) (hm : n ≤ 1000000) (hr : Rd w B A (flat2 l)) (hr' : Rd w B' A' (flat2 l)) :
    Calls Try.prog 18 #[.slice A n c, .slice A' n c'] w fun e w' => e = .returned (.bool true) ∧ ∃ d, w.drewN d = w' := by
  have HN := Lib.hid hn
  clear hn
  go_enter Try.func18, Try.ntmps18
  go_wp2
  go_loopw [5] (fun i wr => ∃ k d : Nat, k ≤ n ∧ i = .int .i64 k ∧ w.drewN d = wr) (fun i _ => n - (intOf i).toNat)
  case atStart => exact ⟨0, 0, Nat.zero_le _, rfl, rfl⟩
  case round =>
    obtain ⟨k, d, hk, rfl, rfl⟩ := hrel
    by_cases hlt : k < n
    · obtain ⟨⟨x, y⟩, hx⟩ : ∃ z, l[k]? = some z := ⟨_, List.getElem?_eq_getElem (by rw [HN.out]; exact hlt)⟩
      obtain ⟨hx1, hx2⟩ := flat2_at l k x y hx
      obtain ⟨b, o, rfl, hb, hc⟩ := hr _ _ hx1
      obtain ⟨b1, o1, e1, _, hd⟩ := hr _ _ hx2
      injection e1 with e1
      injection e1 with e1 e2
      subst e1
      subst e2
      obtain ⟨b', o', rfl, hb', hc'⟩ := hr' _ _ hx1
      obtain ⟨b1, o1, e1, _, hd'⟩ := hr' _ _ hx2
      injection e1 with e1
      injection e1 with e1 e2
      subst e1
      subst e2
      have hlt' : (k : Int) < (n : Int) := by omega
      have h0 : (0 : Int) ≤ (k : Int) := by omega
      clear hx hx1 hx2
      rw [← Nat.add_assoc] at hd hd'
      go_wp2
      go_quiet (fail)
      go_wp2
      go_roundw
      case rel => exact ⟨k + 1, d + nq, by omega, by go_num, rfl⟩
      case measure => simp [intOf]; omega
    · go_wp2
      go_ret
      exact ⟨rfl, d, rfl⟩
end Go.Proofs.Ytadnkidbglhdlaa.mz
