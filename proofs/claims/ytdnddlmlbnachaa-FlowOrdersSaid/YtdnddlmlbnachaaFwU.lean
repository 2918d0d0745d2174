/-
  patchbaylaw17: sameBytes of any two rows of bytes.
-/
import Derived.Test.YtdnddlmlbnachaaRows
import Derived.Test.YtdnddlmlbnachaaOcB
import Derived.WalkLawsBesides
import Derived.WalkSpells
import Derived.Outline
import Derived.Lib.Hide
import Derived.Deep.QuietTactic
import Derived.BigQuiet
set_option linter.unusedVariables false
set_option linter.unusedSimpArgs false
namespace Go.Proofs.Ytdnddlmlbnachaa.fw
open Go.RowKit Go.Proofs.Ytdnddlmlbnachaa.oc
theorem take_eq {l m : List Nat} {k : Nat} (hl : k < l.length) (hm : k < m.length) (h : l.take k = m.take k) (e : l.getD k 0 = m.getD k 0) : l.take (k + 1) = m.take (k + 1) := by
  rw [take_snoc (getq hl), take_snoc (getq hm), h, e]
section
variable (w : World)
set_option maxRecDepth 100000 in
set_option maxHeartbeats 1000000 in
theorem same_len (A A' : Option Addr) (n n' c c' : Nat) (h : n ≠ n') : Calls Try.prog 16 #[.slice A n c, .slice A' n' c'] w fun e w' => e = .returned (.bool false) ∧ ∃ d, w.drewN d = w' := by
  have d1 : ((n : Int) != (n' : Int)) = true := bne_iff_ne.2 (by omega)
  have d2 : ((n : Int) == (n' : Int)) = false := beq_eq_false_iff_ne.2 (by omega)
  have d3 : ¬ n = n' := h
  clear h
  go_enter Try.func16, Try.ntmps16
  go_wp2
  try rw [Exit.noGoto_ret]
  go_ret
  exact ⟨rfl, 0, rfl⟩
set_option maxRecDepth 100000 in
set_option maxHeartbeats 1000000 in
theorem same_n (A A' : Option Addr) (l m : List Nat) (n c c' B B' : Nat) (hl : l.length = n) (hm : m.length = n) (hn : n ≤ 140737488355328) (hr : Rd w B A (by_ l)) (hr' : Rd w B' A' (by_ m)) :
    Calls Try.prog 16 #[.slice A n c, .slice A' n c'] w fun e w' => e = .returned (.bool (decide (l = m))) ∧ ∃ d, w.drewN d = w' := by
  have HL := Lib.hid (And.intro hl hm)
  obtain ⟨Z, hZ⟩ : ∃ Z, Z = decide (l = m) := ⟨_, rfl⟩
  rw [← hZ]
  have HZ := Lib.hid hZ
  clear hl hm hZ
  go_enter Try.func16, Try.ntmps16
  go_wp2
  go_loopw [5] (fun i wr => ∃ k d : Nat, k ≤ n ∧ i = .int .i64 k ∧ w.drewN d = wr ∧ l.take k = m.take k) (fun i _ => n - (intOf i).toNat)
  case atStart => exact ⟨0, 0, Nat.zero_le _, rfl, rfl, by simp⟩
  case round =>
    obtain ⟨k, d, hk, rfl, rfl, ht⟩ := hrel
    by_cases hlt : k < n
    · have hx := getq (bs := l) (k := k) (by rw [HL.out.1]; exact hlt)
      have hy := getq (bs := m) (k := k) (by rw [HL.out.2]; exact hlt)
      obtain ⟨b, o, rfl, hb, hc⟩ := hr.byte hx
      obtain ⟨b', o', rfl, hb', hc'⟩ := hr'.byte hy
      have HT := Lib.hid (fun e => take_eq (by rw [HL.out.1]; exact hlt) (by rw [HL.out.2]; exact hlt) ht e)
      have HXY := Lib.hid (And.intro hx hy)
      have hlt' : (k : Int) < (n : Int) := by omega
      have h0 : (0 : Int) ≤ (k : Int) := by omega
      clear hx hy ht
      generalize l.getD k 0 = x at *
      generalize m.getD k 0 = y at *
      by_cases hq : x = y
      · have HT2 := Lib.hid (HT.out hq)
        clear HT
        subst hq
        go_wp2
        go_quiet (fail)
        go_wp2
        go_roundw
        case rel => exact ⟨k + 1, d + nq, by omega, by go_num, rfl, HT2.out⟩
        case measure => simp [intOf]; omega
      · have d1 : ((x : Int) != (y : Int)) = true := bne_iff_ne.2 (by omega)
        have d2 : ((x : Int) == (y : Int)) = false := beq_eq_false_iff_ne.2 (by omega)
        have d3 : ¬ x = y := hq
        have e : Z = false := by
          rw [HZ.out]
          refine decide_eq_false fun q => hq ?_
          have := HXY.out.1
          rw [q, HXY.out.2] at this
          injection this with this
          exact this.symm
        clear HZ HT HXY hq
        subst e
        go_wp2
        go_quiet (fail)
        go_wp2
        try rw [Exit.noGoto_ret]
        try simp only [Exit.inBlock, Exit.then]
        go_ret
        exact ⟨rfl, d + nq, by rw [World.drewN_drewN]⟩
    · have e : Z = true := by
        rw [HZ.out]
        rw [List.take_of_length_le (by rw [HL.out.1]; omega), List.take_of_length_le (by rw [HL.out.2]; omega)] at ht
        exact decide_eq_true ht
      clear HZ ht
      subst e
      go_wp2
      go_ret
      exact ⟨rfl, d, rfl⟩
theorem same_ (A A' : Option Addr) (l m : List Nat) (n n' c c' B B' : Nat) (hl : l.length = n) (hm : m.length = n') (hn : n ≤ 140737488355328) (hr : Rd w B A (by_ l)) (hr' : Rd w B' A' (by_ m)) :
    Calls Try.prog 16 #[.slice A n c, .slice A' n' c'] w fun e w' => e = .returned (.bool (decide (l = m))) ∧ ∃ d, w.drewN d = w' := by
  by_cases h : n = n'
  · subst h
    exact same_n w A A' l m n c c' B B' hl hm hn hr hr'
  · rw [decide_eq_false (fun e => h (by rw [← hl, ← hm, e]))]
    exact same_len w A A' n n' c c' h
end
end Go.Proofs.Ytdnddlmlbnachaa.fw
