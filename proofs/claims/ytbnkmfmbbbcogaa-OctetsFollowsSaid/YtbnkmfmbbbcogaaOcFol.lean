/-
  A sum goes on with a change: plain numbers; 'near', walked.
-/
import Derived.Test.YtbnkmfmbbbcogaaOcH
import Derived.Test.YtbnkmfmbbbcogaaOcFold
namespace Go.Proofs.Ytbnkmfmbbbcogaa.oc
open Go.RowKit
theorem st_shift (b : List Nat) : ∀ (s : Nat) (p : Bool), (b.foldl (fun s x => (s.1 + (if s.2 then x * 256 else x), !s.2)) (s, p)).1 = s + (b.foldl (fun s x => (s.1 + (if s.2 then x * 256 else x), !s.2)) (0, p)).1 := by
  induction b with
  | nil => intro s p; rfl
  | cons x r ih =>
    intro s p
    rw [List.foldl_cons, List.foldl_cons, ih (s + _), ih (0 + _)]
    simp only
    omega
theorem tot_append {a : List Nat} (h : a.length % 2 = 0) (b : List Nat) : tot (a ++ b) = tot a + tot b := by
  have e : st a = (tot a, true) := by
    have := st_even h
    unfold tot
    rw [← this]
  have e2 : st (a ++ b) = b.foldl (fun s x => (s.1 + (if s.2 then x * 256 else x), !s.2)) (st a) := by unfold st; rw [List.foldl_append]
  have e3 : tot (a ++ b) = (b.foldl (fun s x => (s.1 + (if s.2 then x * 256 else x), !s.2)) (st a)).1 := by rw [← e2]; rfl
  rw [e3, e, st_shift]
  rfl
theorem tot_mid {a : List Nat} (h : a.length % 2 = 0) (x y : Nat) (b : List Nat) : tot (a ++ x :: y :: b) = tot a + (x * 256 + y) + tot b := by
  have e : a ++ x :: y :: b = (a ++ [x, y]) ++ b := by simp
  rw [e, tot_append (by rw [List.length_append]; simp; omega), tot_two h]
theorem set_mid (a b : List Nat) (x y x' y' p : Nat) (h : a.length = p) : ((a ++ x :: y :: b).set p x').set (p + 1) y' = a ++ x' :: y' :: b := by
  subst h
  rw [List.set_append_right _ _ (by omega), List.set_append_right _ _ (by omega)]
  simp
/-- the sum behind a change is the changed bytes' sum, up to 0 and 65535 -/
theorem upd_mod {T o n : Nat} (ho : o ≤ T) (ho16 : o ≤ 65535) : upd (65535 - fold T) o n % 65535 = (65535 - fold (T - o + n)) % 65535 := by
  have h1 := fold_mod T
  have h2 := fold_le T
  have h3 := fold_mod (65535 - (65535 - fold T) + (65535 - o) + n)
  have h4 := fold_le (65535 - (65535 - fold T) + (65535 - o) + n)
  have h5 := fold_mod (T - o + n)
  have h6 := fold_le (T - o + n)
  unfold upd
  generalize fold (65535 - (65535 - fold T) + (65535 - o) + n) = a at *
  generalize fold (T - o + n) = b at *
  generalize fold T = c at *
  omega
/-- .. and back again -/
theorem upd_back {s o n : Nat} (hs : s ≤ 65535) (ho : o ≤ 65535) (hn : n ≤ 65535) : upd (upd s o n) n o % 65535 = s % 65535 := by
  have h3 := fold_mod (65535 - s + (65535 - o) + n)
  have h4 := fold_le (65535 - s + (65535 - o) + n)
  unfold upd
  generalize fold (65535 - s + (65535 - o) + n) = a at *
  have h1 := fold_mod (65535 - (65535 - a) + (65535 - n) + o)
  have h2 := fold_le (65535 - (65535 - a) + (65535 - n) + o)
  generalize fold (65535 - (65535 - a) + (65535 - n) + o) = b at *
  omega
theorem near_any (a b : Nat) (w : World) (ha : a ≤ 65535) (hb : b ≤ 65535) (h : a % 65535 = b % 65535) :
    Calls Try.prog 36 #[.int .u16 a, .int .u16 b] w fun e w' => e = .returned (.bool true) ∧ w = w' := by
  by_cases he : a = b
  · subst he
    clear h
    go_enter Try.func36, Try.ntmps36
    go_wp2
    go_ret
    exact ⟨rfl, rfl⟩
  · rcases (by omega : (a = 0 ∧ b = 65535) ∨ (a = 65535 ∧ b = 0)) with ⟨rfl, rfl⟩ | ⟨rfl, rfl⟩
    · clear h he ha hb
      go_enter Try.func36, Try.ntmps36
      go_wp2
      go_ret
      exact ⟨rfl, rfl⟩
    · clear h he ha hb
      go_enter Try.func36, Try.ntmps36
      go_wp2
      go_ret
      exact ⟨rfl, rfl⟩
end Go.Proofs.Ytbnkmfmbbbcogaa.oc
