/-
  A round of OnceMakes: the Once is asked under notes; the machine alone.
-/
import Derived.Test.YthleddflihidcabGreatOnUN
import Derived.Test.YthleddflihidcabGreatRf4d
import Derived.Test.YthleddflihidcabGreatRf4
set_option linter.unusedVariables false
namespace Go.Proofs.YthleddflihidcabGreat.rf4
open Go.RowKit Go.Proofs.YthleddflihidcabGreat.oc Go.Proofs.YthleddflihidcabGreat.mz Go.Proofs.YthleddflihidcabGreat.on
/-- the slot's cells ahead of the k-th ask (0: nobody asked; else: it is made) -/
def slotOf (d : Int) (v : Nat) (c : Int) (k : Nat) : List Value := if k = 0 then sl 0 0 0 4294967296 0 (.int .u64 0) 0 else if d = 1 then sl 3 0 0 0 3 (.int .u64 0) (erN c) else sl 2 0 0 0 2 (.int .u64 (v : Int)) 0
def cnt (k : Nat) : Int := if k = 0 then 0 else 1
def word (k : Nat) (d : Int) : Nat := if k = 0 then 0 else stN d
def marks (k : Nat) : List (Nat × Nat) := if k = 0 then [(1, 0), (5, 0), (2, 0)] else [(1, 0)]
theorem slotOf_succ (d : Int) (v : Nat) (c : Int) (k : Nat) : slotOf d v c (k + 1) = slotOf d v c 1 := by simp [slotOf]
theorem slotOf_st (d : Int) (v : Nat) (c : Int) : ∃ st dn mu wg en num x, (st != 0) = true ∧ slotOf d v c 1 = sl st dn mu wg en x num := by
  unfold slotOf
  by_cases h : d = 1
  · exact ⟨3, 0, 0, 0, 3, erN c, .int .u64 0, rfl, by simp [h]⟩
  · exact ⟨2, 0, 0, 0, 2, 0, .int .u64 (v : Int), rfl, by simp [h]⟩
theorem erN_ne (c : Int) : (erN c == 0) = false := by
  unfold erN
  by_cases h : c = 0 <;> simp [h]
theorem makes_enter (args : Array Value) (w : World) : (callFunc 7 args).run Tryz.prog w = .ok (.enter 7 args) w := by
  have hb : (Tryz.f7).body.isSome = true := by kernel_rfl
  have hn : (Tryz.f7.name == "runtime.NumGoroutine") = false := by kernel_rfl
  obtain ⟨c, hc⟩ := Option.isSome_iff_exists.1 hb
  have h1 : Tryz.f7.name ≠ "runtime.NumGoroutine" := by simpa using hn
  simp [callFunc, Tryz.func7, h1, hc]
theorem ask_ (d : Int) (v : Nat) (c : Int) (k O M C N : Nat) (F : Nat → Prop) (w : World) (h : onU.Once_ w O (.func (.func 7) #[] #[.pointer (some ⟨M, 0, none⟩), .pointer (some ⟨C, 0, none⟩)]) (slotOf d v c k))
    (hM : Blk w M 24 [.int .i64 d, .int .u64 (v : Int), .int .i64 c]) (hC : w.cell? ⟨C, 0, none⟩ = some (.int .i64 (cnt k))) (hf : k = 0 → w.frozen? ⟨C, 0, none⟩ = false)
    (hN : NInv w N [] F) (hO1 : O < N) (hM1 : M < N) (hC1 : C < N) (hOM : O ≠ M) (hOC : O ≠ C) (hMC : M ≠ C) :
    Calls Tryz.prog 13 #[.pointer (some ⟨O, 0, none⟩), .iface 41 (.pointer (some ⟨N, 0, none⟩))] w fun e w' => e = .returned (.tuple #[.int .u64 ((t1 d v : Nat) : Int), .int .i64 (eN d c)]) ∧
      onU.Once_ w' O (.func (.func 7) #[] #[.pointer (some ⟨M, 0, none⟩), .pointer (some ⟨C, 0, none⟩)]) (slotOf d v c 1) ∧ w'.cell? ⟨C, 0, none⟩ = some (.int .i64 1) ∧ (∃ F', NInv w' N (marks k) F') ∧ Keeps (fun b => b = O ∨ b = C ∨ N ≤ b) w w' := by
  rcases Nat.eq_zero_or_pos k with h0 | h0
  · subst h0
    have hHM : ∀ w1, Keeps (fun b => b = O ∨ N ≤ b) w w1 → Calls Tryz.prog 7 #[.pointer (some ⟨M, 0, none⟩), .pointer (some ⟨C, 0, none⟩)] w1 fun e w' => e = .returned (.tuple #[.int .u64 (v : Int), .int .i64 (eN d c)]) ∧ Keeps (· = C) w1 w' ∧ w'.cell? ⟨C, 0, none⟩ = some (.int .i64 1) := fun w1 k1 =>
      make_ d v c M C w1 (Blk.keeps hM k1 (by omega)) (Keeps.cell k1 hC (by omega)) (frozen_keeps k1 (Keeps.lt_cell hC) (hf rfl) (by omega))
    have hQ : ∀ w1 w2 : World, w1.cell? ⟨C, 0, none⟩ = some (.int .i64 1) → Keeps (fun b => b = O ∨ N ≤ b) w1 w2 → w2.cell? ⟨C, 0, none⟩ = some (.int .i64 1) := fun w1 w2 q kk => Keeps.cell kk q (by omega)
    by_cases hd : d = 1
    · have e1 : eN d c = erN c := by simp [eN, hd]
      have e2 : t1 d v = 0 := by simp [t1, hd]
      have e3 : slotOf d v c 0 = sl 0 0 0 4294967296 0 (.int .u64 0) 0 := by simp [slotOf]
      have e4 : slotOf d v c 1 = sl 3 0 0 0 3 (.int .u64 0) (erN c) := by simp [slotOf, hd]
      rw [e3] at h
      rw [e1] at hHM
      rw [e1, e2, e4]
      refine (onU.ogetn_err O 0 0 0 0 N [] F (.int .u64 0) (v : Int) (erN c) _ _ (· = C) _ w h hN hO1 (by simp) (fun e => hOC e) (fun k e => by subst e; exact hC1) hQ (erN_ne c) makes_enter hHM).mono ?_
      rintro e w' ⟨he, ho, hn, hk, hq⟩
      exact ⟨he, ho, hq, hn, hk⟩
    · have e1 : eN d c = 0 := by simp [eN, hd]
      have e2 : t1 d v = v := by simp [t1, hd]
      have e3 : slotOf d v c 0 = sl 0 0 0 4294967296 0 (.int .u64 0) 0 := by simp [slotOf]
      have e4 : slotOf d v c 1 = sl 2 0 0 0 2 (.int .u64 (v : Int)) 0 := by simp [slotOf, hd]
      rw [e3] at h
      rw [e1] at hHM
      rw [e1, e2, e4]
      refine (onU.ogetn_ok O 0 0 0 0 N [] F (.int .u64 0) (v : Int) _ _ (· = C) _ w h hN hO1 (by simp) (fun e => hOC e) (fun k e => by subst e; exact hC1) hQ makes_enter hHM).mono ?_
      rintro e w' ⟨he, ho, hn, hk, hq⟩
      exact ⟨he, ho, hq, hn, hk⟩
  · obtain ⟨j, rfl⟩ : ∃ j, k = j + 1 := ⟨k - 1, by omega⟩
    rw [slotOf_succ] at h
    have hm : marks (j + 1) = [(1, 0)] := by simp [marks]
    have hc1 : cnt (j + 1) = 1 := by simp [cnt]
    rw [hc1] at hC
    rw [hm]
    by_cases hd : d = 1
    · have e1 : eN d c = erN c := by simp [eN, hd]
      have e2 : t1 d v = 0 := by simp [t1, hd]
      have e4 : slotOf d v c 1 = sl 3 0 0 0 3 (.int .u64 0) (erN c) := by simp [slotOf, hd]
      rw [e4] at h
      rw [e1, e2, e4]
      refine (onU.ogetn2_err O 0 0 0 0 N [] F (.int .u64 0) (v : Int) (erN c) _ _ w h hN hO1 (by simp)).mono ?_
      rintro e w' ⟨he, ho, hn, hk⟩
      exact ⟨he, ho, Keeps.cell hk hC (by omega), hn, hk.mono (fun _ _ z => .inr (.inr z))⟩
    · have e1 : eN d c = 0 := by simp [eN, hd]
      have e2 : t1 d v = v := by simp [t1, hd]
      have e4 : slotOf d v c 1 = sl 2 0 0 0 2 (.int .u64 (v : Int)) 0 := by simp [slotOf, hd]
      rw [e4] at h
      rw [e1, e2, e4]
      refine (onU.ogetn2_ok O 0 0 0 0 N [] F (.int .u64 0) (v : Int) _ _ w h hN hO1 (by simp)).mono ?_
      rintro e w' ⟨he, ho, hn, hk⟩
      exact ⟨he, ho, Keeps.cell hk hC (by omega), hn, hk.mono (fun _ _ z => .inr (.inr z))⟩
theorem erW_lt (c : Int) : erW c < 18446744073709551616 := by unfold erW; omega
theorem t0_lt (d c : Int) : t0 d c < 18446744073709551616 := by
  unfold t0
  split
  · exact erW_lt c
  · omega
theorem t1_lt (d : Int) (v : Nat) (h : v < 18446744073709551616) : t1 d v < 18446744073709551616 := by
  unfold t1
  split <;> omega
theorem stN_lt (d : Int) : stN d < 18446744073709551616 := by
  unfold stN
  split <;> omega
theorem alone_ (d : Int) (v : Nat) (c : Int) (k m : Nat) (wv lv cv dv : Value) (w : World) (hv : v < 18446744073709551616) (hw : IsWords w w.heap.size wv [[word k d]]) (hl : IsLists w w.heap.size lv m) (hm : m < 1000000) (hc : IsCode w w.heap.size cv (getCode (stN d) (t0 d c) (t1 d v))) (hd : IsData w w.heap.size dv []) :
    Calls Tryz.prog 14 #[.agg #[wv, lv], .agg #[cv, dv]] w fun e w' => ∃ tA tc A cc A2 c2 m' mA mc, e = .returned (.tuple #[.slice tA 2 tc, .agg #[.slice A 1 cc, .slice A2 m' c2], .slice mA (marks k).length mc]) ∧ m' < 1000000 ∧
      (∀ w'', Keeps (fun b => b < w.heap.size) w' w'' → IsData w'' w''.heap.size (.slice tA 2 tc) [t0 d c, t1 d v] ∧ IsWords w'' w''.heap.size (.slice A 1 cc) [[stN d]] ∧ IsLists w'' w''.heap.size (.slice A2 m' c2) m' ∧ IsMarks w'' w''.heap.size (.slice mA (marks k).length mc) (marks k)) ∧ ∀ S, Keeps S w w' := by
  have key : ∃ pl, plays 40 10 [[word k d]] [] [[(getCode (stN d) (t0 d c) (t1 d v), [])]] = some pl ∧ pl.ws = [[stN d]] ∧ pl.trace.map (·.2) = marks k ∧ pl.ths.map (·.ans) = [[(true, [t0 d c, t1 d v])]] := by
    rcases Nat.eq_zero_or_pos k with h0 | h0
    · subst h0
      obtain ⟨pl, h1, h2, h3, h4⟩ := play_first (stN d) (t0 d c) (t1 d v) (stN_lt d) (t0_lt d c) (t1_lt d v hv)
      exact ⟨pl, by simpa [word] using h1, h2, by rw [h3]; rfl, h4⟩
    · have hs : stN d = 2 ∨ stN d = 3 := by unfold stN; split <;> simp
      obtain ⟨pl, h1, h2, h3, h4⟩ := play_again (stN d) (stN d) (t0 d c) (t1 d v) hs (stN_lt d) (t0_lt d c) (t1_lt d v hv)
      have hw2 : word k d = stN d := by simp [word]; omega
      have hm2 : marks k = [(1, 0)] := by simp [marks]; omega
      exact ⟨pl, by rw [hw2]; exact h1, h2, by rw [h3, hm2]; rfl, h4⟩
  obtain ⟨pl, h1, h2, h3, h4⟩ := key
  have hlen : pl.trace.length = (marks k).length := by rw [← h3]; simp
  have hlt : (marks k).length ≤ 3 := by unfold marks; split <;> simp
  have hwl : word k d < 18446744073709551616 := by
    unfold word
    split
    · omega
    · exact stN_lt d
  refine (alone_any 40 10 w.heap.size m wv lv cv dv [[word k d]] _ [] w hw hl hc hd (Nat.le_refl _) (by simp) hm (by simp) (fun l hl x hx => by simp at hl; subst hl; simp at hx; subst hx; exact hwl) (by simp [getCode]) pl h1 true [t0 d c, t1 d v] h4 (by omega)).mono ?_
  rintro e w' ⟨tA, tc, A, cc, A2, c2, m', mA, mc, he, hm', hr, hk⟩
  rw [h2, hlen] at he hr
  refine ⟨tA, tc, A, cc, A2, c2, m', mA, mc, he, hm', fun w'' kk => ?_, hk⟩
  have := hr w'' kk
  rw [h2, h3] at this
  exact this
end Go.Proofs.YthleddflihidcabGreat.rf4
