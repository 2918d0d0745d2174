/-
  StackNews' body.
-/
import Derived.Test.YtjgbbjfphjhdcaaSkWk
set_option linter.unusedVariables false
namespace Go.Proofs.Ytjgbbjfphjhdcaa.oc
open Go.RowKit Go.Proofs.Ytjgbbjfphjhdcaa.oc Go.Proofs.Ytjgbbjfphjhdcaa.mz Go.Proofs.Ytjgbbjfphjhdcaa.at_ Go.Proofs.Ytjgbbjfphjhdcaa.gt Go.Proofs.Ytjgbbjfphjhdcaa.gw Go.Proofs.Ytjgbbjfphjhdcaa.sk
theorem pows_up : ∀ p ∈ pows, 2 * p ∈ pows ∨ 2 * p = 2048 := by decide
theorem pows_far : ∀ p ∈ pows, ∀ m ∈ pows, m < 2 * p → m ≤ p := by decide
/-- may, behind the powers below p -/
def MayB (s : Int) (p : Nat) (b : Bool) : Prop := b = true ↔ ∃ m ∈ pows, m < p ∧ s = (m : Int)
theorem MayB.start (s : Int) : MayB s 1 false := by
  unfold MayB
  exact ⟨fun z => (by cases z), fun ⟨m, h1, h2, _⟩ => (by have := pows_le h1; omega)⟩
theorem MayB.next {s : Int} {p : Nat} {b : Bool} (h : MayB s p b) (hp : p ∈ pows) : MayB s (2 * p) (b || decide (s = (p : Int))) := by
  unfold MayB at *
  rw [Bool.or_eq_true, h, decide_eq_true_iff]
  constructor
  · rintro (⟨m, h1, h2, h3⟩ | h3)
    · exact ⟨m, h1, by omega, h3⟩
    · exact ⟨p, hp, by have := pows_le hp; omega, h3⟩
  · rintro ⟨m, h1, h2, h3⟩
    have := pows_far p hp m h1 h2
    by_cases e : m = p
    · subst e; exact .inr h3
    · exact .inl ⟨m, h1, by omega, h3⟩
theorem MayB.nextT {s : Int} {p : Nat} (h : MayB s p true) (hp : p ∈ pows) : MayB s (2 * p) true := by
  have := h.next hp
  rwa [Bool.true_or] at this
theorem MayB.nextF {s : Int} {p : Nat} (h : MayB s p false) (hp : p ∈ pows) : MayB s (2 * p) (s == (p : Int)) := by
  have := h.next hp
  rw [Bool.false_or] at this
  have e : (s == (p : Int)) = decide (s = (p : Int)) := by rw [Bool.eq_iff_iff]; simp
  rwa [e]
theorem MayB.yes {n : Nat} {b : Bool} (h : MayB (n : Int) 2048 b) (hn : n ∈ pows) : b = true := h.2 ⟨n, hn, by have := pows_le hn; omega, rfl⟩
theorem MayB.no {s : Int} {b : Bool} (h : MayB s 2048 b) (hn : ¬ ∃ n ∈ pows, s = (n : Int)) : b = false := by
  cases b
  · rfl
  · obtain ⟨m, h1, _, h2⟩ := h.1 rfl
    exact absurd ⟨m, h1, h2⟩ hn
set_option maxRecDepth 100000 in
set_option maxHeartbeats 4000000 in
theorem walk_stackNews (w : World) (s : Int) (hs1 : -9223372036854775808 ≤ s) (hs2 : s ≤ 9223372036854775807) :
    Calls Try.prog 3 #[.int .i64 s] w fun e w' => e = .returned (.bool true) ∧ Below w.heap.size w w' := by
  by_cases hin : ∃ n ∈ pows, s = (n : Int)
  · obtain ⟨n, hn, rfl⟩ := hin
    have HNEW := Lib.hid (new_ok n w hn)
    have HN := Lib.hid hn
    have HLE : Hid (1 ≤ n ∧ n ≤ 1024) := Lib.hid (pows_le hn)
    have hn1 : (1 : Int) ≤ (n : Int) := by have := HLE.out; omega
    have hn2 : (n : Int) ≤ 1024 := by have := HLE.out; omega
    clear hs1 hs2 hn
    go_enter Try.func3, Try.ntmps3
    go_wp2_with fail
    refine HNEW.out.mono ?_
    rintro e w1 ⟨Q, W, rfl, r1, hQ, hW, k1⟩
    have B1 : Hid (At w1 Q W n [] ∧ w.heap.size ≤ W ∧ Keeps (fun b => w.heap.size ≤ b) w w1) := Lib.hid ⟨⟨_, r1, Holds.start HLE.out.1 HLE.out.2⟩, hW, k1 _⟩
    have HSL := Lib.hid (slots_ Q W n _ w1 r1)
    clear r1 hQ hW k1 HNEW
    go_wp2_with fail
    go_loopw [5, 6] (fun v i wr => ∃ (p : Nat) (b : Bool), (p ∈ pows ∨ p = 2048) ∧ i = .int .i64 (p : Int) ∧ v = .bool b ∧ MayB (n : Int) p b ∧ wr = w1) (fun _ i _ => 4096 - (intOf i).toNat)
    case atStart => exact ⟨1, false, .inl (by decide), rfl, rfl, MayB.start _, rfl⟩
    case round =>
      obtain ⟨p, b, hp, rfl, rfl, hb, rfl⟩ := hrel
      rcases hp with hp | rfl
      · have hp1 := pows_le hp
        have hp2 : (p : Int) ≤ 1024 := by omega
        have hp3 : (1 : Int) ≤ (p : Int) := by omega
        have HP := Lib.hid hp
        cases b
        · have HB := Lib.hid (hb.nextF hp)
          clear hb hp hp1
          go_wp2_with fail
          go_roundw
          case rel => exact ⟨2 * p, _, pows_up p HP.out, by go_num, rfl, HB.out, by first | rfl | trivial⟩
          case measure => simp [intOf]; omega
        · have HB := Lib.hid (hb.nextT hp)
          clear hb hp hp1
          go_wp2_with fail
          go_roundw
          case rel => exact ⟨2 * p, _, pows_up p HP.out, by go_num, rfl, HB.out, by first | rfl | trivial⟩
          case measure => simp [intOf]; omega
      · have hbt := hb.yes HN.out
        subst hbt
        clear hb
        go_wp2_with fail
        refine HSL.out.mono ?_
        rintro e w2 ⟨rfl, rfl⟩
        go_wp2_with fail
        go_loopw [7] (fun i wr => ∃ k : Nat, k ≤ n + 1 ∧ i = .int .i64 (k : Int) ∧ At wr Q W n (List.range (min k n)) ∧ Keeps (fun b => w.heap.size ≤ b) w wr) (fun i _ => 4096 - (intOf i).toNat)
        case atStart => exact ⟨0, by omega, rfl, by simpa using B1.out.1, B1.out.2.2⟩
        case round =>
          obtain ⟨k, hk, rfl, hat, hkk⟩ := hrel
          have HK := Lib.hid hkk
          by_cases hle : k ≤ n
          · have hle' : (k : Int) ≤ (n : Int) := by omega
            by_cases hlt : k < n
            · have hlt' : (k : Int) < (n : Int) := by omega
              rw [Nat.min_eq_left hle] at hat
              have HP := Lib.hid (push0_yes k hat (by simpa using hlt) (by omega))
              clear hat hkk
              go_wp2_with fail
              refine HP.out.mono ?_
              rintro e w3 ⟨rfl, h3, k3⟩
              have H3 := Lib.hid h3
              have K3 := Lib.hid k3
              clear h3 k3
              go_wp2_with fail
              go_roundw
              case rel => exact ⟨k + 1, by omega, by go_num, by rw [Nat.min_eq_left (by omega), List.range_succ]; exact H3.out, HK.out.trans (K3.out.mono (fun b hb e => by have := B1.out.2.1; omega))⟩
              case measure => simp [intOf]; omega
            · have hlt' : ¬ (k : Int) < (n : Int) := by omega
              have HP := Lib.hid (push0_no (k : Int) hat (by simp; omega))
              have HE : Hid (min (k + 1) n = min k n) := Lib.hid (by omega)
              clear hat hkk
              go_wp2_with fail
              refine HP.out.mono ?_
              rintro e w3 ⟨rfl, h3, k3⟩
              have H3 := Lib.hid h3
              have K3 := Lib.hid k3
              clear h3 k3
              go_wp2_with fail
              go_roundw
              case rel => exact ⟨k + 1, by omega, by go_num, by rw [HE.out]; exact H3.out, HK.out.trans (K3.out.mono (fun b hb e => by have := B1.out.2.1; omega))⟩
              case measure => simp [intOf]; omega
          · have hle' : ¬ (k : Int) ≤ (n : Int) := by omega
            rw [Nat.min_eq_right (by omega)] at hat
            have HA := Lib.hid hat
            clear hat hkk
            go_wp2_with fail
            go_loopw [10] (fun i wr => ∃ z : Int, i = .int .i64 z ∧ -2 ≤ z ∧ z < (n : Int) ∧ At wr Q W n (List.range (z + 1).toNat) ∧ Keeps (fun b => w.heap.size ≤ b) w wr) (fun i _ => (intOf i + 3).toNat)
            case atStart => exact ⟨(n : Int) - 1, rfl, by omega, by omega, by have := HA.out; rwa [show ((n : Int) - 1 + 1).toNat = n from by omega], HK.out⟩
            case round =>
              clear HA HK
              obtain ⟨z, rfl, hz1, hz2, hat, hkk⟩ := hrel
              have HK := Lib.hid hkk
              by_cases hz : 0 ≤ z
              · obtain ⟨k, rfl⟩ := Int.eq_ofNat_of_zero_le hz
                rw [show ((k : Int) + 1).toNat = k + 1 from by omega, List.range_succ] at hat
                have HP := Lib.hid (pop0_yes k hat)
                have hc : (-1 : Int) ≤ (k : Int) := by omega
                clear hat hkk hz1
                go_wp2_with fail
                refine HP.out.mono ?_
                rintro e w3 ⟨rfl, h3, k3⟩
                have H3 := Lib.hid h3
                have K3 := Lib.hid k3
                clear h3 k3
                go_wp2_with fail
                go_roundw
                case rel => exact ⟨(k : Int) - 1, by go_num, by omega, by omega, by rw [show ((k : Int) - 1 + 1).toNat = k from by omega]; exact H3.out, HK.out.trans (K3.out.mono (fun b hb e => by have := B1.out.2.1; omega))⟩
                case measure => simp [intOf]; omega
              · by_cases hz3 : z = -1
                · subst hz3
                  have HP := Lib.hid (pop0_no (by simpa using hat))
                  clear hat hkk hz1
                  go_wp2_with fail
                  refine HP.out.mono ?_
                  rintro e w3 ⟨rfl, h3, k3⟩
                  have H3 := Lib.hid h3
                  have K3 := Lib.hid k3
                  clear h3 k3
                  go_wp2_with fail
                  go_roundw
                  case rel => exact ⟨-2, by go_num, by omega, by omega, by simpa using H3.out, HK.out.trans (K3.out.mono (fun b hb e => by have := B1.out.2.1; omega))⟩
                  case measure => simp [intOf]
                · obtain rfl : z = -2 := by omega
                  have HAW := Lib.hid (awake_ wr)
                  clear hat hkk
                  go_wp2_with fail
                  refine HAW.out.mono ?_
                  rintro e w2 ⟨rfl, k2⟩
                  go_wp2
                  try rw [Exit.noGoto_ret]
                  go_ret
                  exact ⟨rfl, ((HK.out.trans (k2 _)).only (fun b z => z)).below⟩
  · have HNEW := Lib.hid (new_arg s w (fun n hn e => hin ⟨n, hn, e⟩))
    have HIN := Lib.hid hin
    clear hin
    go_enter Try.func3, Try.ntmps3
    go_wp2_with fail
    refine HNEW.out.mono ?_
    rintro e w1 ⟨rfl, rfl⟩
    have HAW := Lib.hid (awake_ w)
    clear HNEW
    go_wp2_with fail
    go_loopw [5, 6] (fun v i wr => ∃ (p : Nat) (b : Bool), (p ∈ pows ∨ p = 2048) ∧ i = .int .i64 (p : Int) ∧ v = .bool b ∧ MayB s p b ∧ w = wr) (fun _ i _ => 4096 - (intOf i).toNat)
    case atStart => exact ⟨1, false, .inl (by decide), rfl, rfl, MayB.start _, rfl⟩
    case round =>
      obtain ⟨p, b, hp, rfl, rfl, hb, rfl⟩ := hrel
      rcases hp with hp | rfl
      · have hp1 := pows_le hp
        have hp2 : (p : Int) ≤ 1024 := by omega
        have hp3 : (1 : Int) ≤ (p : Int) := by omega
        have HP := Lib.hid hp
        cases b
        · have HB := Lib.hid (hb.nextF hp)
          clear hb hp hp1
          go_wp2_with fail
          go_roundw
          case rel => exact ⟨2 * p, _, pows_up p HP.out, by go_num, rfl, HB.out, by first | rfl | trivial⟩
          case measure => simp [intOf]; omega
        · have HB := Lib.hid (hb.nextT hp)
          clear hb hp hp1
          go_wp2_with fail
          go_roundw
          case rel => exact ⟨2 * p, _, pows_up p HP.out, by go_num, rfl, HB.out, by first | rfl | trivial⟩
          case measure => simp [intOf]; omega
      · have hbt := hb.no HIN.out
        subst hbt
        clear hb
        go_wp2_with fail
        refine HAW.out.mono ?_
        rintro e w2 ⟨rfl, k2⟩
        go_wp2
        try rw [Exit.noGoto_ret]
        go_ret
        exact ⟨rfl, (k2 _).below⟩
end Go.Proofs.Ytjgbbjfphjhdcaa.oc
