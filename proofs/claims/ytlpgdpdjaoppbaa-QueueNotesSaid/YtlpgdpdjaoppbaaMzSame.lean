/-
  SameWords, SameMarks of lists that are one; Within.
-/
import Derived.Test.YtlpgdpdjaoppbaaMzK
import Derived.Test.YtlpgdpdjaoppbaaProg
import Derived.WalkLawsBesides
import Derived.IntWalk
import Derived.Outline
import Derived.Lib.Hide
import Derived.Test.YtlpgdpdjaoppbaaMzAlone
import Derived.WalkSpells
import Derived.Deep.QuietTactic
import Derived.BigQuiet
set_option linter.unusedVariables false
namespace Go.Proofs.Ytlpgdpdjaoppbaa.mz
open Go.RowKit Go.Proofs.Ytlpgdpdjaoppbaa.oc
set_option maxHeartbeats 1000000 in
theorem within_ (t : Int) (n : Nat) (w : World) (hn : 0 < n) (hn2 : n < 1000000) (h1 : -9223372036854775808 ≤ t) (h2 : t ≤ 9223372036854775807) :
    Calls Try.prog 8 #[.int .i64 t, .int .i64 (n : Int)] w fun e w' => e = .returned (.int .i64 (t % (n : Int))) ∧ w = w' := by
  have hm : t.tmod (n : Int) = if 0 ≤ t ∨ t % (n : Int) = 0 then t % (n : Int) else t % (n : Int) - n := by
    rw [Int.tmod_eq_emod]
    have hd : ((n : Int) ∣ t) ↔ t % (n : Int) = 0 := Int.dvd_iff_emod_eq_zero
    simp only [hd, Int.natAbs_natCast]
    split <;> simp
  have hp : 0 ≤ t % (n : Int) := Int.emod_nonneg _ (by omega)
  have hq : t % (n : Int) < n := Int.emod_lt_of_pos _ (by omega)
  have hnz : ¬ (n : Int) = 0 := by omega
  by_cases hc : 0 ≤ t ∨ t % (n : Int) = 0
  · rw [if_pos hc] at hm
    have hneg : ¬ t.tmod (n : Int) < 0 := by rw [hm]; omega
    rw [← hm]
    have HM := Lib.hid hm
    clear hm hp hq hc
    go_enter Try.func8, Try.ntmps8
    go_wp2
    go_ret
    exact ⟨rfl, rfl⟩
  · rw [if_neg hc] at hm
    have hneg : t.tmod (n : Int) < 0 := by rw [hm]; omega
    have hlow : -1000000 < t.tmod (n : Int) := by rw [hm]; omega
    have hsum : t % (n : Int) = t.tmod (n : Int) + n := by rw [hm]; omega
    rw [hsum]
    have HM := Lib.hid hm
    clear hm hp hq hc hsum
    have hn3 : (n : Int) < 1000000 := by omega
    have hn4 : (0 : Int) ≤ n := by omega
    go_enter Try.func8, Try.ntmps8
    go_wp2
    go_ret
    exact ⟨rfl, rfl⟩
end Go.Proofs.Ytlpgdpdjaoppbaa.mz
set_option linter.unusedVariables false
namespace Go.Proofs.Ytlpgdpdjaoppbaa.mz
open Go.RowKit Go.Proofs.Ytlpgdpdjaoppbaa.oc
theorem u64s_at {l : List Nat} {k x : Nat} (h : l[k]? = some x) : (u64s l)[k]? = some (.int .u64 (x : Int)) := by simp [u64s, h]
set_option maxHeartbeats 1000000 in
theorem same_words (A A' : Option Addr) (l : List Nat) (n c c' B B' : Nat) (w : World) (hn : l.length = n) (hm : n ≤ 1000000) (hr : Rd w B A (u64s l)) (hr' : Rd w B' A' (u64s l)) :
    Calls Try.prog 12 #[.slice A n c, .slice A' n c'] w fun e w' => e = .returned (.bool true) ∧ ∃ d, w.drewN d = w' := by
  have HN := Lib.hid hn
  clear hn
  go_enter Try.func12, Try.ntmps12
  go_wp2
  go_loopw [5] (fun i wr => ∃ k d : Nat, k ≤ n ∧ i = .int .i64 k ∧ w.drewN d = wr) (fun i _ => n - (intOf i).toNat)
  case atStart => exact ⟨0, 0, Nat.zero_le _, rfl, rfl⟩
  case round =>
    obtain ⟨k, d, hk, rfl, rfl⟩ := hrel
    by_cases hlt : k < n
    · have hx := getq (bs := l) (k := k) (by rw [HN.out]; exact hlt)
      obtain ⟨b, o, rfl, hb, hc⟩ := hr _ _ (u64s_at hx)
      obtain ⟨b', o', rfl, hb', hc'⟩ := hr' _ _ (u64s_at hx)
      have hlt' : (k : Int) < (n : Int) := by omega
      have h0 : (0 : Int) ≤ (k : Int) := by omega
      clear hx
      generalize l.getD k 0 = x at *
      go_wp2
      go_quiet (fail)
      go_wp2
      go_roundw
      case rel => exact ⟨k + 1, d + nq, by omega, by go_num, rfl⟩
      case measure => simp [intOf]; omega
    · go_wp2
      go_ret
      exact ⟨rfl, d, rfl⟩
theorem flat2_at : ∀ (l : List (Nat × Nat)) (i c pc : Nat), l[i]? = some (c, pc) → (flat2 l)[i * 2]? = some (.int .u8 (c : Int)) ∧ (flat2 l)[i * 2 + 1]? = some (.int .i64 (pc : Int))
  | x :: l, 0, c, pc, h => by simp at h; subst h; exact ⟨rfl, rfl⟩
  | (a, b) :: l, i + 1, c, pc, h => by
    have := flat2_at l i c pc (by simpa using h)
    rw [show (i + 1) * 2 = i * 2 + 1 + 1 from by omega, show i * 2 + 1 + 1 + 1 = (i * 2 + 1) + 1 + 1 from rfl]
    simpa [flat2] using this
  | [], i, c, pc, h => by simp at h
set_option maxHeartbeats 2000000 in
theorem same_marks (A A' : Option Addr) (l : List (Nat × Nat)) (n c c' B B' : Nat) (w : World) (hn : l.length = n) (hm : n ≤ 1000000) (hr : Rd w B A (flat2 l)) (hr' : Rd w B' A' (flat2 l)) :
    Calls Try.prog 20 #[.slice A n c, .slice A' n c'] w fun e w' => e = .returned (.bool true) ∧ ∃ d, w.drewN d = w' := by
  have HN := Lib.hid hn
  clear hn
  go_enter Try.func20, Try.ntmps20
  go_wp2
  go_loopw [5] (fun i wr => ∃ k d : Nat, k ≤ n ∧ i = .int .i64 k ∧ w.drewN d = wr) (fun i _ => n - (intOf i).toNat)
  case atStart => exact ⟨0, 0, Nat.zero_le _, rfl, rfl⟩
  case round =>
    obtain ⟨k, d, hk, rfl, rfl⟩ := hrel
    by_cases hlt : k < n
    · obtain ⟨⟨x, y⟩, hx⟩ : ∃ z, l[k]? = some z := ⟨_, List.getElem?_eq_getElem (by rw [HN.out]; exact hlt)⟩
      obtain ⟨hx1, hx2⟩ := flat2_at l k x y hx
      obtain ⟨b, o, rfl, hb, hc⟩ := hr _ _ hx1
      obtain ⟨b1, o1, e1, _, hd⟩ := hr _ _ hx2
      injection e1 with e1
      injection e1 with e1 e2
      subst e1
      subst e2
      obtain ⟨b', o', rfl, hb', hc'⟩ := hr' _ _ hx1
      obtain ⟨b1, o1, e1, _, hd'⟩ := hr' _ _ hx2
      injection e1 with e1
      injection e1 with e1 e2
      subst e1
      subst e2
      have hlt' : (k : Int) < (n : Int) := by omega
      have h0 : (0 : Int) ≤ (k : Int) := by omega
      clear hx hx1 hx2
      rw [← Nat.add_assoc] at hd hd'
      go_wp2
      go_quiet (fail)
      go_wp2
      go_roundw
      case rel => exact ⟨k + 1, d + nq, by omega, by go_num, rfl⟩
      case measure => simp [intOf]; omega
    · go_wp2
      go_ret
      exact ⟨rfl, d, rfl⟩
end Go.Proofs.Ytlpgdpdjaoppbaa.mz
