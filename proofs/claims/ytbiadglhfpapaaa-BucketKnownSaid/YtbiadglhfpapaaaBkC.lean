/-
  patchbayref12's Run beyond the ticks; patchbaylaw12's same.
-/
import Derived.Test.YtbiadglhfpapaaaBkB
set_option linter.unusedVariables false
namespace Go.Proofs.Ytbiadglhfpapaaa.bk
open Go.RowKit Go.Proofs.Ytbiadglhfpapaaa.oc Go.Proofs.Ytbiadglhfpapaaa.mz
section
variable (w : World) (n d b : Nat)
set_option maxRecDepth 100000 in
set_option maxHeartbeats 2000000 in
theorem run_range (A : Option Addr) (m c : Nat) (l : List (Nat × Nat)) (hm : May n d b) (ha : Asks w w.heap.size A l) (hl : l.length = m) (hm9 : m ≤ 100000000000000) (ht : ¬ ∀ p ∈ l, p.1 ≤ 1099511627776) : Calls Try.prog 23 #[bv n d b, .slice A m c] w fun e w' => e = .returned (.tuple #[.slice none 0 0, .int .i64 5]) ∧ ∀ S, Keeps S w w' := by
  have HC := fun w => Lib.hid (check_ok w n d b hm)
  unfold bv at HC ⊢
  have HA := Lib.hid ha
  have HL := Lib.hid (show l.length = m ∧ ¬ ∀ p ∈ l, p.1 ≤ 1099511627776 from ⟨hl, ht⟩)
  have hm9' : (m : Int) ≤ 100000000000000 := by omega
  clear hm ha hl ht hm9
  go_enter Try.func23, Try.ntmps23
  go_wp2_with fail
  refine (HC _).out.mono ?_
  rintro e w1 ⟨rfl, k1⟩
  have K1 : Hid (∀ S, Keeps S w w1) := Lib.hid (fun S => ((Keeps.refl S w).alloc _).trans (k1 S))
  have HAW := Lib.hid (HA.out.keeps (S := fun _ => False) (K1.out _) (fun _ _ z => z))
  clear k1
  go_wp2_with fail
  go_loopw [6] (fun i wr => ∃ k : Nat, k ≤ m ∧ i = .int .i64 (k : Int) ∧ w1 = wr ∧ ∀ j p, j < k → l[j]? = some p → p.1 ≤ 1099511627776) (fun i _ => m + 1 - (intOf i).toNat)
  case atStart => exact ⟨0, Nat.zero_le _, rfl, rfl, fun j p h => absurd h (Nat.not_lt_zero _)⟩
  case round =>
    obtain ⟨k, hk, rfl, rfl, hsm⟩ := hrel
    have k0 : (0 : Int) ≤ (k : Int) := by omega
    rcases Nat.lt_or_ge k m with hlt | hlt
    · obtain ⟨pp, hp⟩ : ∃ pp, l[k]? = some pp := ⟨_, List.getElem?_eq_getElem (by have := HL.out.1; omega)⟩
      obtain ⟨bb, o, rfl, hbb, c1, c2⟩ := HAW.out.at_ hp
      have HPP := Lib.hid hp
      have HSM := Lib.hid hsm
      obtain ⟨pt, pk⟩ := pp
      have hlt' : (k : Int) < (m : Int) := by omega
      simp only at c1 c2
      rcases Nat.lt_or_ge 1099511627776 pt with hq | hq
      · have q2 : (1099511627776 : Int) < (pt : Int) := by omega
        clear hp hbb hk hq hsm hlt
        go_wp2
        try rw [Exit.noGoto_ret]
        go_ret2
        exact ⟨rfl, K1.out⟩
      · have q2 : ¬ (1099511627776 : Int) < (pt : Int) := by omega
        have HQ := Lib.hid hq
        clear hp hbb hk hsm hq
        go_wp2
        go_roundw
        case rel => exact ⟨k + 1, by omega, by go_num, by simp, fun j p h1 h2 => by
          rcases Nat.lt_or_ge j k with q | q
          · exact HSM.out j p q h2
          · have e : j = k := by omega
            subst e
            rw [HPP.out] at h2
            injection h2 with h2
            subst h2
            exact HQ.out⟩
        case measure => simp [intOf]; omega
    · exfalso
      have hkm : k = m := by omega
      apply HL.out.2
      intro p hp
      obtain ⟨j, hj, he⟩ := List.getElem_of_mem hp
      exact hsm j p (by have := HL.out.1; omega) (by rw [List.getElem?_eq_getElem hj, he])
set_option maxRecDepth 100000 in
set_option maxHeartbeats 2000000 in
theorem same_ (A A' : Option Addr) (m c m' c' : Nat) (l l' : List Bool) (ha : Rd w w.heap.size A (bools l)) (ha' : Rd w w.heap.size A' (bools l')) (hl : l.length = m) (hl' : l'.length = m') (hm9 : m ≤ 100000000000000) : Calls Try.prog 24 #[.slice A m c, .slice A' m' c'] w fun e w' => e = .returned (.bool (decide (l = l'))) ∧ ∀ S, Keeps S w w' := by
  have HA := Lib.hid (show ∀ (k : Nat) (x : Bool), l[k]? = some x → ∃ b o, A = some ⟨b, o, none⟩ ∧ w.cell? ⟨b, o + k, none⟩ = some (.bool x) from fun k x hx => by
    obtain ⟨b, o, e, _, q⟩ := ha k (.bool x) (by simp [bools, hx])
    exact ⟨b, o, e, q⟩)
  have HA' := Lib.hid (show ∀ (k : Nat) (x : Bool), l'[k]? = some x → ∃ b o, A' = some ⟨b, o, none⟩ ∧ w.cell? ⟨b, o + k, none⟩ = some (.bool x) from fun k x hx => by
    obtain ⟨b, o, e, _, q⟩ := ha' k (.bool x) (by simp [bools, hx])
    exact ⟨b, o, e, q⟩)
  have HL := Lib.hid (show l.length = m ∧ l'.length = m' from ⟨hl, hl'⟩)
  have hm9' : (m : Int) ≤ 100000000000000 := by omega
  rcases Nat.lt_trichotomy m m' with hmm | hmm | hmm
  case inl =>
    have q : ¬ (m : Int) = (m' : Int) := by omega
    have hd : decide (l = l') = false := decide_eq_false (fun e => by subst e; omega)
    rw [hd]
    clear ha ha' hl hl' hm9 hmm hd
    go_enter Try.func24, Try.ntmps24
    go_wp2
    try rw [Exit.noGoto_ret]
    go_ret
    exact ⟨rfl, fun S => Keeps.refl S w⟩
  case inr.inr =>
    have q : ¬ (m : Int) = (m' : Int) := by omega
    have hd : decide (l = l') = false := decide_eq_false (fun e => by subst e; omega)
    rw [hd]
    clear ha ha' hl hl' hm9 hmm hd
    go_enter Try.func24, Try.ntmps24
    go_wp2
    try rw [Exit.noGoto_ret]
    go_ret
    exact ⟨rfl, fun S => Keeps.refl S w⟩
  case inr.inl =>
    subst hmm
    obtain ⟨R, hR⟩ : ∃ R, R = decide (l = l') := ⟨_, rfl⟩
    rw [← hR]
    have HR := Lib.hid hR
    clear ha ha' hl hl' hm9 hR
    go_enter Try.func24, Try.ntmps24
    go_wp2_with fail
    go_loopw [5] (fun i wr => ∃ k : Nat, k ≤ m ∧ i = .int .i64 (k : Int) ∧ (∀ S, Keeps S w wr) ∧ ∀ j, j < k → l[j]? = l'[j]?) (fun i _ => m + 1 - (intOf i).toNat)
    case atStart => exact ⟨0, Nat.zero_le _, rfl, fun S => Keeps.refl S w, fun j h => absurd h (Nat.not_lt_zero _)⟩
    case round =>
      obtain ⟨k, hk, rfl, hw, he⟩ := hrel
      have HE := Lib.hid he
      have HK := Lib.hid hk
      have HW := Lib.hid hw
      have k0 : (0 : Int) ≤ (k : Int) := by omega
      rcases Nat.lt_or_ge k m with hkm | hkm
      · have k1 : (k : Int) < (m : Int) := by omega
        obtain ⟨x, hx⟩ : ∃ x, l[k]? = some x := ⟨_, List.getElem?_eq_getElem (by have := HL.out; omega)⟩
        obtain ⟨x', hx'⟩ : ∃ x', l'[k]? = some x' := ⟨_, List.getElem?_eq_getElem (by have := HL.out; omega)⟩
        obtain ⟨b, o, rfl, c1⟩ := HA.out k x hx
        obtain ⟨b', o', rfl, c2⟩ := HA'.out k x' hx'
        replace c1 := Keeps.cell (hw (fun _ => False)) c1 (fun z => z)
        replace c2 := Keeps.cell (hw (fun _ => False)) c2 (fun z => z)
        have HX := Lib.hid (show l[k]? = some x ∧ l'[k]? = some x' ∧ k < m from ⟨hx, hx', hkm⟩)
        clear he hk hkm hx hx' hw
        go_wp2_with fail
        go_region_held3 (fun w' => w'.cell? ⟨b, o + k, none⟩ = some (.bool x) ∧ w'.cell? ⟨b', o' + k, none⟩ = some (.bool x')) (first | exact ⟨c1, c2⟩) ((first | fail))
        have HKD : Hid (∀ S, Keeps S w wr.drew) := Lib.hid (fun S => (HW.out S).drew)
        by_cases hxx : x = x'
        · subst hxx
          cases x
          all_goals
            go_wp2_with fail
            go_roundw
            case rel => exact ⟨k + 1, HX.out.2.2, by go_num, HKD.out, fun j h => by
              rcases Nat.lt_or_ge j k with q | q
              · exact HE.out j q
              · have e : j = k := by omega
                subst e
                rw [HX.out.1, HX.out.2.1]⟩
            case measure => have := HX.out.2.2; simp [intOf]; omega
        · have hd : R = false := by
            rw [HR.out]
            exact decide_eq_false (fun e => by
              have h := HX.out
              rw [e, h.2.1] at h
              exact hxx (by injection h.1 with h; exact h.symm))
          have HD := Lib.hid hd
          clear hd
          cases x <;> cases x'
          case false.false => exact absurd rfl hxx
          case true.true => exact absurd rfl hxx
          all_goals
            clear hxx
            go_wp2
            try rw [Exit.noGoto_ret]
            go_ret
            exact ⟨by rw [HD.out]; rfl, HKD.out⟩
      · have hke : k = m := by omega
        have k1 : ¬ (k : Int) < (m : Int) := by omega
        have hd : R = true := by
          rw [HR.out]
          exact decide_eq_true (List.ext_getElem? (fun j => by
            rcases Nat.lt_or_ge j m with q | q
            · exact he j (by omega)
            · rw [List.getElem?_eq_none (by have := HL.out; omega), List.getElem?_eq_none (by have := HL.out; omega)]))
        have HD := Lib.hid hd
        clear he hk hkm hke hd hw
        go_wp2
        try rw [Exit.noGoto_ret]
        go_ret
        exact ⟨by rw [HD.out]; rfl, HW.out⟩
end
end Go.Proofs.Ytbiadglhfpapaaa.bk
