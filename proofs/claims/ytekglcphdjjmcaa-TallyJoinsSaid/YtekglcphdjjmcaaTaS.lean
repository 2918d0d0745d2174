/-
  tally: Sum under no gate.
-/
import Derived.Test.YtekglcphdjjmcaaTa
set_option linter.unusedVariables false
namespace Go.Proofs.Ytekglcphdjjmcaa.ta
open Go.RowKit Go.Proofs.Ytekglcphdjjmcaa.oc Go.Proofs.Ytekglcphdjjmcaa.mz Go.Proofs.Ytekglcphdjjmcaa.at_ Go.Proofs.Ytekglcphdjjmcaa.gt Go.Proofs.Ytekglcphdjjmcaa.gw
/-- all words together -/
def sumW (l : List Nat) : Nat := l.foldl (fun a b => (a + b) % W64) 0
theorem sumW_snoc (l : List Nat) (x : Nat) : sumW (l ++ [x]) = (sumW l + x) % W64 := by simp [sumW]
theorem sumW_take {l : List Nat} {k : Nat} (h : k < l.length) : sumW (l.take (k + 1)) = (sumW (l.take k) + l[k]?.getD 0) % W64 := by
  rw [List.take_add_one, List.getElem?_eq_getElem h]
  exact sumW_snoc _ _
theorem sumW_lt (l : List Nat) : sumW l < 18446744073709551616 := by
  rcases List.eq_nil_or_concat l with rfl | ⟨r, x, rfl⟩
  · decide
  · rw [List.concat_eq_append, sumW_snoc]; exact mod_lt64 _
set_option maxRecDepth 100000 in
set_option maxHeartbeats 2000000 in
theorem sum_ (T W n : Nat) (ws : List Nat) (w : World) (h : Ta w T W n ws) :
    Calls Try.prog 7 #[.pointer (some ⟨T, 0, none⟩), .nilIface] w fun e w' => e = .returned (.tuple #[.int .u64 (sumW ws : Int), .int .i64 0]) ∧ ∀ S, Keeps S w w' := by
  have HP := Lib.hid (parts_ T W n ws w h)
  have HL := Lib.hid (And.intro h.len h.top)
  clear h
  generalize hP : w.heap.size = P at *
  go_enter Try.func7, Try.ntmps7
  go_wp2_with fail
  refine HP.out.mono ?_
  rintro e w1 ⟨rfl, b1, k1⟩
  have B1 := Lib.hid b1
  have K1 : Hid (∀ S, Keeps S w w1) := Lib.hid k1
  clear b1 k1 HP
  go_wp2_with fail
  go_loopw [19, 8] (fun i s wr => ∃ k : Nat, k ≤ n ∧ i = .int .i64 (k : Int) ∧ s = .int .u64 (sumW (ws.take k) : Int) ∧ w1 = wr) (fun i _ _ => n - (intOf i).toNat)
  case atStart => exact ⟨0, Nat.zero_le _, rfl, rfl, rfl⟩
  case round =>
    obtain ⟨k, hk, rfl, rfl, rfl⟩ := hrel
    by_cases hlt : k < n
    · have hlt' : (k : Int) < (n : Int) := by omega
      have hn1 : (n : Int) ≤ 64 := by have := HL.out.2; omega
      have c1 : w1.cell? ⟨P, k, none⟩ = some (.int .u64 ((ws[k]?.getD 0 : Nat) : Int)) := by
        rw [B1.out.cell]
        have : ws[k]? = some (ws[k]?.getD 0) := by rw [List.getElem?_eq_getElem (by have := HL.out.1; omega)]; rfl
        rw [u64s, List.getElem?_map, this]; rfl
      have HE := Lib.hid (wrap_add (sumW (ws.take k)) (ws[k]?.getD 0))
      go_wp2_with fail
      go_roundw
      case rel => exact ⟨k + 1, by omega, by go_num, by rw [sumW_take (by have := HL.out.1; omega)]; exact congrArg _ HE.out, trivial⟩
      case measure => simp [intOf]; omega
    · obtain rfl : k = n := by omega
      go_wp2_with fail
      go_ret2
      refine ⟨by rw [List.take_of_length_le (by have := HL.out.1; omega)]; rfl, K1.out⟩
end Go.Proofs.Ytekglcphdjjmcaa.ta
