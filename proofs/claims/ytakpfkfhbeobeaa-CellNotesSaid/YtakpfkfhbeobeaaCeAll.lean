/-
  Of each call: what done does to the cells; the machine at the same call.
-/
import Derived.Test.YtakpfkfhbeobeaaCeM4
import Derived.Test.YtakpfkfhbeobeaaRf3
set_option linter.unusedVariables false
namespace Go.Proofs.Ytakpfkfhbeobeaa.ce
open Go.RowKit Go.Proofs.Ytakpfkfhbeobeaa.oc Go.Proofs.Ytakpfkfhbeobeaa.mz Go.Proofs.Ytakpfkfhbeobeaa.rf3
/-- the code of a call of kind k -/
def codeOf (k dn dm dv : Nat) : List Ins := if k = 0 then getCode 0 else if k = 1 then addCode dn else if k = 2 then upCode dn dm else if k = 3 then downCode dn else if k = 4 then maxCode dn else if k = 5 then getCode 1 else if k = 6 then turnCode 1 else if k = 7 then turnCode 0 else if k = 8 then getBox else if k = 9 then putBox dv else tryBox dn dv
/-- a call of kind k takes the cells from (c, x, v, n) to (c', x', v', n'), tells told, does the operations mk -/
structure Step (k dn dm dv : Nat) (c x v n c' x' v' n' : Nat) (told : List Nat) (mk : List (Nat × Nat)) : Prop where
  code : ∀ (C L B E : Nat) (d : Int) (gv : Value) (w : World) (ms : List (Nat × Nat)) (F : Nat → Prop), Cl w C L B E c x v n → Gate w gv ms F → ms.length < 999999 → ¬ F C → ¬ F L → ¬ F B → ¬ F E → (∀ b, F b → b < w.heap.size) → (-9223372036854775808 ≤ d ∧ d < 9223372036854775808) → d % 11 = (k : Int) →
    Calls Try.prog 8 #[.agg #[.pointer (some ⟨C, 0, none⟩), .pointer (some ⟨L, 0, none⟩), .pointer (some ⟨B, 0, none⟩)], gv, .agg #[.int .i64 d, .int .u64 (dn : Int), .int .u64 (dm : Int), .int .u32 (dv : Int)]] w
      fun e w' => DPost C L B c' x' v' n' gv told (ms ++ mk) F w e w'
  mach : ∃ pl, plays 40 10 [[c], [x], [box n v]] [] [[(codeOf k dn dm dv, [])]] = some pl ∧ pl.ws = [[c'], [x'], [box n' v']] ∧ pl.trace.map (·.2) = mk ∧ pl.ths.map (·.ans) = [[(true, told)]]
  few : told.length ≤ 2 ∧ mk.length ≤ 2 ∧ mk ≠ []
  fit : c' < 18446744073709551616 ∧ x' < 2 ∧ v' < 4294967296 ∧ n' ≤ n + 1
theorem sub_cmp {c dn dm : Nat} (hc : c < 18446744073709551616) (hn : dn < 18446744073709551616) (hm : dm < 18446744073709551616) (h1 : dn ≤ dm) : (c ≤ dm - dn) ↔ ¬ (dm + (18446744073709551616 - dn)) % 18446744073709551616 < c := by omega
theorem step_all (k dn dm dv c x v n : Nat) (hk : k < 11) (hn : dn < 18446744073709551616) (hm : dm < 18446744073709551616) (hv : dv < 4294967296) (hc : c < 18446744073709551616) (hx : x < 2) (hvv : v < 4294967296) (hnn : n < 4000000000) :
    ∃ c' x' v' n' told mk, Step k dn dm dv c x v n c' x' v' n' told mk := by
  have e0 : W64 = 18446744073709551616 := W64_eq
  have hn9 : n < 4294967290 := by omega
  have hq : (n + 1) % W64 = n + 1 := by rw [e0]; omega
  have hmod : ∀ a : Nat, a % 18446744073709551616 < 18446744073709551616 := fun a => Nat.mod_lt _ (by omega)
  rcases (show k = 0 ∨ k = 1 ∨ k = 2 ∨ k = 3 ∨ k = 4 ∨ k = 5 ∨ k = 6 ∨ k = 7 ∨ k = 8 ∨ k = 9 ∨ k = 10 by omega) with rfl | rfl | rfl | rfl | rfl | rfl | rfl | rfl | rfl | rfl | rfl
  · obtain ⟨pl, p1, p2, p3, p4⟩ := play_get0 hc hx hvv hn9
    refine ⟨_, _, _, _, _, _, ⟨fun C L B E d gv w ms F h hg hl q1 q2 q3 q4 hF hd hk => ?_, ⟨pl, p1, p2, by rw [p3] <;> rfl, p4⟩, by simp, ⟨by first | exact hc | exact hmod _ | exact hn, by omega, by omega, by omega⟩⟩⟩
    have := done0 C L B E c x v n d dn dm dv gv w ms F h hg hl q1 q2 q3 q4 hF hd hk
    simpa [e0, List.append_assoc] using this
  · obtain ⟨pl, p1, p2, p3, p4⟩ := play_add (v := dn) hc hx hvv hn9 hn
    refine ⟨_, _, _, _, _, _, ⟨fun C L B E d gv w ms F h hg hl q1 q2 q3 q4 hF hd hk => ?_, ⟨pl, p1, p2, by rw [p3] <;> rfl, p4⟩, by simp, ⟨by first | exact hc | exact hmod _ | exact hn, by omega, by omega, by omega⟩⟩⟩
    have := done1 C L B E c x v n d dn dm dv gv w ms F h hg hl q1 q2 q3 q4 hF hd hk
    simpa [e0, List.append_assoc] using this
  · by_cases h1 : dn ≤ dm
    · by_cases h2 : c ≤ dm - dn
      · obtain ⟨pl, p1, p2, p3, p4⟩ := play_up_yes (v := dn) (b := dm) hc hx hvv hn9 hn hm (by omega) ((sub_cmp hc hn hm h1).1 h2)
        refine ⟨_, _, _, _, _, _, ⟨fun C L B E d gv w ms F h hg hl q1 q2 q3 q4 hF hd hk => ?_, ⟨pl, p1, p2, by rw [p3] <;> rfl, p4⟩, by simp, ⟨by first | exact hc | exact hmod _ | exact hn, by omega, by omega, by omega⟩⟩⟩
        have := done2_yes C L B E c x v n d dn dm dv gv w ms F h hg hl q1 q2 q3 q4 hF hd hk hn hm h1 h2
        simpa [e0, List.append_assoc] using this
      · obtain ⟨pl, p1, p2, p3, p4⟩ := play_up_no2 (v := dn) (b := dm) hc hx hvv hn9 hn hm (by omega) (Classical.byContradiction (fun z => h2 ((sub_cmp hc hn hm h1).2 z)))
        refine ⟨_, _, _, _, _, _, ⟨fun C L B E d gv w ms F h hg hl q1 q2 q3 q4 hF hd hk => ?_, ⟨pl, p1, p2, by rw [p3] <;> rfl, p4⟩, by simp, ⟨by first | exact hc | exact hmod _ | exact hn, by omega, by omega, by omega⟩⟩⟩
        have := done2_no2 C L B E c x v n d dn dm dv gv w ms F h hg hl q1 q2 q3 q4 hF hd hk hn hm h1 h2
        simpa [e0, List.append_assoc] using this
    · obtain ⟨pl, p1, p2, p3, p4⟩ := play_up_no1 (v := dn) (b := dm) hc hx hvv hn9 hn hm (by omega)
      refine ⟨_, _, _, _, _, _, ⟨fun C L B E d gv w ms F h hg hl q1 q2 q3 q4 hF hd hk => ?_, ⟨pl, p1, p2, by rw [p3] <;> rfl, p4⟩, by simp, ⟨by first | exact hc | exact hmod _ | exact hn, by omega, by omega, by omega⟩⟩⟩
      have := done2_no1 C L B E c x v n d dn dm dv gv w ms F h hg hl q1 q2 q3 q4 hF hd hk hn hm h1
      simpa [e0, List.append_assoc] using this
  · by_cases h1 : dn ≤ c
    · obtain ⟨pl, p1, p2, p3, p4⟩ := play_down_yes (v := dn) hc hx hvv hn9 hn (by omega)
      refine ⟨_, _, _, _, _, _, ⟨fun C L B E d gv w ms F h hg hl q1 q2 q3 q4 hF hd hk => ?_, ⟨pl, p1, p2, by rw [p3] <;> rfl, p4⟩, by simp, ⟨by first | exact hc | exact hmod _ | exact hn, by omega, by omega, by omega⟩⟩⟩
      have := done3_yes C L B E c x v n d dn dm dv gv w ms F h hg hl q1 q2 q3 q4 hF hd hk hn h1
      simpa [e0, List.append_assoc] using this
    · obtain ⟨pl, p1, p2, p3, p4⟩ := play_down_no (v := dn) hc hx hvv hn9 hn (by omega)
      refine ⟨_, _, _, _, _, _, ⟨fun C L B E d gv w ms F h hg hl q1 q2 q3 q4 hF hd hk => ?_, ⟨pl, p1, p2, by rw [p3] <;> rfl, p4⟩, by simp, ⟨by first | exact hc | exact hmod _ | exact hn, by omega, by omega, by omega⟩⟩⟩
      have := done3_no C L B E c x v n d dn dm dv gv w ms F h hg hl q1 q2 q3 q4 hF hd hk hn h1
      simpa [e0, List.append_assoc] using this
  · by_cases h1 : c < dn
    · obtain ⟨pl, p1, p2, p3, p4⟩ := play_max_yes (v := dn) hc hx hvv hn9 hn h1
      refine ⟨_, _, _, _, _, _, ⟨fun C L B E d gv w ms F h hg hl q1 q2 q3 q4 hF hd hk => ?_, ⟨pl, p1, p2, by rw [p3] <;> rfl, p4⟩, by simp, ⟨by first | exact hc | exact hmod _ | exact hn, by omega, by omega, by omega⟩⟩⟩
      have := done4_yes C L B E c x v n d dn dm dv gv w ms F h hg hl q1 q2 q3 q4 hF hd hk hn h1
      simpa [e0, List.append_assoc] using this
    · obtain ⟨pl, p1, p2, p3, p4⟩ := play_max_no (v := dn) hc hx hvv hn9 hn h1
      refine ⟨_, _, _, _, _, _, ⟨fun C L B E d gv w ms F h hg hl q1 q2 q3 q4 hF hd hk => ?_, ⟨pl, p1, p2, by rw [p3] <;> rfl, p4⟩, by simp, ⟨by first | exact hc | exact hmod _ | exact hn, by omega, by omega, by omega⟩⟩⟩
      have := done4_no C L B E c x v n d dn dm dv gv w ms F h hg hl q1 q2 q3 q4 hF hd hk hn h1
      simpa [e0, List.append_assoc] using this
  · rcases (show x = 0 ∨ x = 1 by omega) with rfl | rfl
    · obtain ⟨pl, p1, p2, p3, p4⟩ := play_get1 (f := 0) hc hx hvv hn9
      refine ⟨_, _, _, _, _, _, ⟨fun C L B E d gv w ms F h hg hl q1 q2 q3 q4 hF hd hk => ?_, ⟨pl, p1, p2, by rw [p3] <;> rfl, p4⟩, by simp, ⟨by first | exact hc | exact hmod _ | exact hn, by omega, by omega, by omega⟩⟩⟩
      have := done_rest C L B E c 0 v n _ _ _ _ d dn dm dv gv w _ ms _ F h hg hl q1 q2 q3 q4 hF hd (by omega) (fun w0 h0 g0 f0 => other5_0 C L B E c 0 v n d dn dm dv gv w0 ms F h0 g0 hl q1 q2 q3 q4 f0 hd hk rfl)
      simpa [e0, List.append_assoc] using this
    · obtain ⟨pl, p1, p2, p3, p4⟩ := play_get1 (f := 1) hc hx hvv hn9
      refine ⟨_, _, _, _, _, _, ⟨fun C L B E d gv w ms F h hg hl q1 q2 q3 q4 hF hd hk => ?_, ⟨pl, p1, p2, by rw [p3] <;> rfl, p4⟩, by simp, ⟨by first | exact hc | exact hmod _ | exact hn, by omega, by omega, by omega⟩⟩⟩
      have := done_rest C L B E c 1 v n _ _ _ _ d dn dm dv gv w _ ms _ F h hg hl q1 q2 q3 q4 hF hd (by omega) (fun w0 h0 g0 f0 => other5_1 C L B E c 1 v n d dn dm dv gv w0 ms F h0 g0 hl q1 q2 q3 q4 f0 hd hk rfl)
      simpa [e0, List.append_assoc] using this
  · rcases (show x = 0 ∨ x = 1 by omega) with rfl | rfl
    · obtain ⟨pl, p1, p2, p3, p4⟩ := play_turn_yes (f := 0) (v := 1) hc hx hvv hn9 (by omega) (by omega)
      refine ⟨_, _, _, _, _, _, ⟨fun C L B E d gv w ms F h hg hl q1 q2 q3 q4 hF hd hk => ?_, ⟨pl, p1, p2, by rw [p3] <;> rfl, p4⟩, by simp, ⟨by first | exact hc | exact hmod _ | exact hn, by omega, by omega, by omega⟩⟩⟩
      have := done_rest C L B E c 0 v n _ _ _ _ d dn dm dv gv w _ ms _ F h hg hl q1 q2 q3 q4 hF hd (by omega) (fun w0 h0 g0 f0 => other6_0 C L B E c 0 v n d dn dm dv gv w0 ms F h0 g0 hl q1 q2 q3 q4 f0 hd hk rfl)
      simpa [e0, List.append_assoc] using this
    · obtain ⟨pl, p1, p2, p3, p4⟩ := play_turn_no (f := 1) (v := 1) hc hx hvv hn9 (by omega) rfl
      refine ⟨_, _, _, _, _, _, ⟨fun C L B E d gv w ms F h hg hl q1 q2 q3 q4 hF hd hk => ?_, ⟨pl, p1, p2, by rw [p3] <;> rfl, p4⟩, by simp, ⟨by first | exact hc | exact hmod _ | exact hn, by omega, by omega, by omega⟩⟩⟩
      have := done_rest C L B E c 1 v n _ _ _ _ d dn dm dv gv w _ ms _ F h hg hl q1 q2 q3 q4 hF hd (by omega) (fun w0 h0 g0 f0 => other6_1 C L B E c 1 v n d dn dm dv gv w0 ms F h0 g0 hl q1 q2 q3 q4 f0 hd hk rfl)
      simpa [e0, List.append_assoc] using this
  · rcases (show x = 0 ∨ x = 1 by omega) with rfl | rfl
    · obtain ⟨pl, p1, p2, p3, p4⟩ := play_turn_no (f := 0) (v := 0) hc hx hvv hn9 (by omega) rfl
      refine ⟨_, _, _, _, _, _, ⟨fun C L B E d gv w ms F h hg hl q1 q2 q3 q4 hF hd hk => ?_, ⟨pl, p1, p2, by rw [p3] <;> rfl, p4⟩, by simp, ⟨by first | exact hc | exact hmod _ | exact hn, by omega, by omega, by omega⟩⟩⟩
      have := done_rest C L B E c 0 v n _ _ _ _ d dn dm dv gv w _ ms _ F h hg hl q1 q2 q3 q4 hF hd (by omega) (fun w0 h0 g0 f0 => other7_0 C L B E c 0 v n d dn dm dv gv w0 ms F h0 g0 hl q1 q2 q3 q4 f0 hd hk rfl)
      simpa [e0, List.append_assoc] using this
    · obtain ⟨pl, p1, p2, p3, p4⟩ := play_turn_yes (f := 1) (v := 0) hc hx hvv hn9 (by omega) (by omega)
      refine ⟨_, _, _, _, _, _, ⟨fun C L B E d gv w ms F h hg hl q1 q2 q3 q4 hF hd hk => ?_, ⟨pl, p1, p2, by rw [p3] <;> rfl, p4⟩, by simp, ⟨by first | exact hc | exact hmod _ | exact hn, by omega, by omega, by omega⟩⟩⟩
      have := done_rest C L B E c 1 v n _ _ _ _ d dn dm dv gv w _ ms _ F h hg hl q1 q2 q3 q4 hF hd (by omega) (fun w0 h0 g0 f0 => other7_1 C L B E c 1 v n d dn dm dv gv w0 ms F h0 g0 hl q1 q2 q3 q4 f0 hd hk rfl)
      simpa [e0, List.append_assoc] using this
  · obtain ⟨pl, p1, p2, p3, p4⟩ := play_getBox hc hx hvv hn9
    refine ⟨_, _, _, _, _, _, ⟨fun C L B E d gv w ms F h hg hl q1 q2 q3 q4 hF hd hk => ?_, ⟨pl, p1, p2, by rw [p3] <;> rfl, p4⟩, by simp, ⟨by first | exact hc | exact hmod _ | exact hn, by omega, by omega, by omega⟩⟩⟩
    have := done_rest C L B E c x v n _ _ _ _ d dn dm dv gv w _ ms _ F h hg hl q1 q2 q3 q4 hF hd (by omega) (fun w0 h0 g0 f0 => other8 C L B E c x v n d dn dm dv gv w0 ms F h0 g0 hl q1 q2 q3 q4 f0 hd hk hvv)
    simpa [e0, List.append_assoc] using this
  · obtain ⟨pl, p1, p2, p3, p4⟩ := play_putBox (q := n + 1) (v := dv) rfl hc hx hvv hn9 hv
    refine ⟨_, _, _, _, _, _, ⟨fun C L B E d gv w ms F h hg hl q1 q2 q3 q4 hF hd hk => ?_, ⟨pl, p1, p2, by rw [p3] <;> rfl, p4⟩, by simp, ⟨by first | exact hc | exact hmod _ | exact hn, by omega, hv, by omega⟩⟩⟩
    have := done_rest C L B E c x v n _ _ _ _ d dn dm dv gv w _ ms _ F h hg hl q1 q2 q3 q4 hF hd (by omega) (fun w0 h0 g0 f0 => other9 C L B E c x v n d dn dm dv gv w0 ms F h0 g0 hl q1 q2 q3 q4 f0 hd hk)
    simpa [hq, List.append_assoc] using this
  · by_cases h1 : dn = n
    · obtain ⟨pl, p1, p2, p3, p4⟩ := play_try_yes (q := n + 1) (v := dv) rfl hc hx hvv hn9 hv
      refine ⟨_, _, _, _, _, _, ⟨fun C L B E d gv w ms F h hg hl q1 q2 q3 q4 hF hd hk => ?_, ⟨pl, by rw [h1]; exact p1, p2, by rw [p3] <;> rfl, p4⟩, by simp, ⟨by first | exact hc | exact hmod _ | exact hn, by omega, hv, by omega⟩⟩⟩
      have := done_rest C L B E c x v n _ _ _ _ d dn dm dv gv w _ ms _ F h hg hl q1 q2 q3 q4 hF hd (by omega) (fun w0 h0 g0 f0 => other10_yes C L B E c x v n d dn dm dv gv w0 ms F h0 g0 hl q1 q2 q3 q4 f0 hd hk h1)
      simpa [hq, List.append_assoc] using this
    · obtain ⟨pl, p1, p2, p3, p4⟩ := play_try_no (m := dn) (v := dv) hc hx hvv hn9 hn hv (fun z => h1 z.symm)
      refine ⟨_, _, _, _, _, _, ⟨fun C L B E d gv w ms F h hg hl q1 q2 q3 q4 hF hd hk => ?_, ⟨pl, p1, p2, by rw [p3] <;> rfl, p4⟩, by simp, ⟨by first | exact hc | exact hmod _ | exact hn, by omega, by omega, by omega⟩⟩⟩
      have := done_rest C L B E c x v n _ _ _ _ d dn dm dv gv w _ ms _ F h hg hl q1 q2 q3 q4 hF hd (by omega) (fun w0 h0 g0 f0 => other10_no C L B E c x v n d dn dm dv gv w0 ms F h0 g0 hl q1 q2 q3 q4 f0 hd hk (fun z => h1 z.symm))
      simpa [e0, List.append_assoc] using this
end Go.Proofs.Ytakpfkfhbeobeaa.ce
