/-
  patchbayref12's Fits; Run's refusal of a tick; patchbaylaw12's right.
-/
import Derived.Test.YtbiadglhfpapaaaBkF
set_option linter.unusedVariables false
namespace Go.Proofs.Ytbiadglhfpapaaa.bk
open Go.RowKit Go.Proofs.Ytbiadglhfpapaaa.oc Go.Proofs.Ytbiadglhfpapaaa.mz
theorem Asks.base {w : World} {B B' : Nat} {A : Option Addr} {l : List (Nat × Nat)} (h : Asks w B A l) (hb : B ≤ B') : Asks w B' A l := ⟨fun i v hv => by
  obtain ⟨b, o, e, h1, h2⟩ := h.rd i v hv
  exact ⟨b, o, e, by omega, h2⟩, h.sm⟩
/-- the place of the first of l with which a stretch is too full -/
structure IsFits (n d b : Nat) (l : List (Nat × Nat)) (k : Nat) : Prop where
  le : k ≤ l.length
  none : ∀ j, j < k → ¬ Full n d b l j
  here : k < l.length → Full n d b l k
theorem IsFits.one {n d b x y : Nat} {l : List (Nat × Nat)} (h : IsFits n d b l x) (g : IsFits n d b l y) : x = y := by
  rcases Nat.lt_trichotomy x y with q | q | q
  · exact absurd (h.here (Nat.lt_of_lt_of_le q g.le)) (g.none x q)
  · exact q
  · exact absurd (g.here (Nat.lt_of_lt_of_le q h.le)) (h.none y q)
section
variable (w : World) (n d b : Nat)
set_option maxRecDepth 100000 in
set_option maxHeartbeats 1000000 in
theorem fits_no (A : Option Addr) (m c : Nat) (hm : ¬ May n d b) : Calls Try.prog 27 #[bv n d b, .slice A m c] w fun e w' => e = .returned (.tuple #[.int .i64 0, .int .i64 2]) ∧ ∀ S, Keeps S w w' := by
  have HC := fun w => Lib.hid (check_no w n d b hm)
  unfold bv at HC ⊢
  clear hm
  go_enter Try.func27, Try.ntmps27
  go_wp2_with fail
  refine (HC _).out.mono ?_
  rintro e w1 ⟨rfl, k1⟩
  have K1 : Hid (∀ S, Keeps S w w1) := Lib.hid (fun S => ((Keeps.refl S w).alloc _).trans (k1 S))
  clear k1
  go_wp2
  try rw [Exit.noGoto_ret]
  go_ret2
  exact ⟨rfl, K1.out⟩
set_option maxRecDepth 100000 in
set_option maxHeartbeats 1000000 in
theorem fits_long (A : Option Addr) (m c : Nat) (hm : May n d b) (hl : 4096 < m) : Calls Try.prog 27 #[bv n d b, .slice A m c] w fun e w' => e = .returned (.tuple #[.int .i64 0, .int .i64 4]) ∧ ∀ S, Keeps S w w' := by
  have HC := fun w => Lib.hid (check_ok w n d b hm)
  unfold bv at HC ⊢
  have q1 : (4096 : Int) < (m : Int) := by omega
  clear hm hl
  go_enter Try.func27, Try.ntmps27
  go_wp2_with fail
  refine (HC _).out.mono ?_
  rintro e w1 ⟨rfl, k1⟩
  have K1 : Hid (∀ S, Keeps S w w1) := Lib.hid (fun S => ((Keeps.refl S w).alloc _).trans (k1 S))
  clear k1
  go_wp2
  try rw [Exit.noGoto_ret]
  go_ret2
  exact ⟨rfl, K1.out⟩
set_option maxRecDepth 100000 in
set_option maxHeartbeats 2000000 in
theorem fits_range (A : Option Addr) (m c : Nat) (l : List (Nat × Nat)) (hm : May n d b) (ha : Asks w w.heap.size A l) (hl : l.length = m) (hm9 : m ≤ 4096) (ht : ¬ ∀ p ∈ l, p.1 ≤ 1099511627776) : Calls Try.prog 27 #[bv n d b, .slice A m c] w fun e w' => e = .returned (.tuple #[.int .i64 0, .int .i64 5]) ∧ ∀ S, Keeps S w w' := by
  have HC := fun w => Lib.hid (check_ok w n d b hm)
  unfold bv at HC ⊢
  have HA := Lib.hid ha
  have HL := Lib.hid (show l.length = m ∧ ¬ ∀ p ∈ l, p.1 ≤ 1099511627776 from ⟨hl, ht⟩)
  have q1 : ¬ (4096 : Int) < (m : Int) := by omega
  have hm9' : (m : Int) ≤ 4096 := by omega
  clear hm ha hl ht hm9
  go_enter Try.func27, Try.ntmps27
  go_wp2_with fail
  refine (HC _).out.mono ?_
  rintro e w1 ⟨rfl, k1⟩
  have K1 : Hid (∀ S, Keeps S w w1) := Lib.hid (fun S => ((Keeps.refl S w).alloc _).trans (k1 S))
  have HAW := Lib.hid (HA.out.keeps (S := fun _ => False) (K1.out _) (fun _ _ z => z))
  clear k1
  go_wp2_with fail
  go_loopw [6] (fun i wr => ∃ k : Nat, k ≤ m ∧ i = .int .i64 (k : Int) ∧ w1 = wr ∧ ∀ j p, j < k → l[j]? = some p → p.1 ≤ 1099511627776) (fun i _ => m + 1 - (intOf i).toNat)
  case atStart => exact ⟨0, Nat.zero_le _, rfl, rfl, fun j p h => absurd h (Nat.not_lt_zero _)⟩
  case round =>
    obtain ⟨k, hk, rfl, rfl, hsm⟩ := hrel
    have k0 : (0 : Int) ≤ (k : Int) := by omega
    rcases Nat.lt_or_ge k m with hlt | hlt
    · obtain ⟨pp, hp⟩ : ∃ pp, l[k]? = some pp := ⟨_, List.getElem?_eq_getElem (by have := HL.out.1; omega)⟩
      obtain ⟨bb, o, rfl, hbb, c1, c2⟩ := HAW.out.at_ hp
      have HPP := Lib.hid hp
      have HSM := Lib.hid hsm
      obtain ⟨pt, pk⟩ := pp
      have hlt' : (k : Int) < (m : Int) := by omega
      simp only at c1 c2
      rcases Nat.lt_or_ge 1099511627776 pt with hq | hq
      · have q2 : (1099511627776 : Int) < (pt : Int) := by omega
        clear hp hbb hk hq hsm hlt
        go_wp2
        try rw [Exit.noGoto_ret]
        go_ret2
        exact ⟨rfl, K1.out⟩
      · have q2 : ¬ (1099511627776 : Int) < (pt : Int) := by omega
        have HQ := Lib.hid hq
        clear hp hbb hk hsm hq
        go_wp2
        go_roundw
        case rel => exact ⟨k + 1, by omega, by go_num, by simp, fun j p h1 h2 => by
          rcases Nat.lt_or_ge j k with q | q
          · exact HSM.out j p q h2
          · have e : j = k := by omega
            subst e
            rw [HPP.out] at h2
            injection h2 with h2
            subst h2
            exact HQ.out⟩
        case measure => simp [intOf]; omega
    · exfalso
      have hkm : k = m := by omega
      apply HL.out.2
      intro p hp
      obtain ⟨j, hj, he⟩ := List.getElem_of_mem hp
      exact hsm j p (by have := HL.out.1; omega) (by rw [List.getElem?_eq_getElem hj, he])
set_option maxRecDepth 100000 in
set_option maxHeartbeats 2000000 in
theorem fits_ok (A : Option Addr) (m c : Nat) (l : List (Nat × Nat)) (hm : May n d b) (ha : Asks w w.heap.size A l) (hl : l.length = m) (hm9 : m ≤ 4096) (ht : ∀ p ∈ l, p.1 ≤ 1099511627776) : Calls Try.prog 27 #[bv n d b, .slice A m c] w fun e w' => ∃ k : Nat, e = .returned (.tuple #[.int .i64 (k : Int), .int .i64 0]) ∧ IsFits n d b l k ∧ ∀ S, Keeps S w w' := by
  have HC := fun w => Lib.hid (check_ok w n d b hm)
  have HFU := fun (i : Nat) (hi : i < m) (wr : World) (hk : Asks wr wr.heap.size A l) => full_ wr n d b A m c i l hm hk hl (by omega) hi ht
  unfold bv at HC HFU ⊢
  have HA := Lib.hid ha
  have HL := Lib.hid (show l.length = m ∧ ∀ p ∈ l, p.1 ≤ 1099511627776 from ⟨hl, ht⟩)
  have q1 : ¬ (4096 : Int) < (m : Int) := by omega
  have hm9' : (m : Int) ≤ 4096 := by omega
  have HF : Hid (∀ (i : Nat) (hi : i < m) (wr : World), _) := Lib.hid HFU
  clear hm ha hl ht hm9 HFU
  go_enter Try.func27, Try.ntmps27
  go_wp2_with fail
  have B0 := Blk.new w 24 #[.int .u64 (n : Int), .int .u64 (d : Int), .int .u64 (b : Int)]
  refine (HC _).out.mono ?_
  rintro e w1 ⟨rfl, k1⟩
  have K1 : Hid (∀ S, Keeps S w w1) := Lib.hid (fun S => ((Keeps.refl S w).alloc _).trans (k1 S))
  have B1 := Lib.hid (Blk.keeps B0 (k1 (fun _ => False)) (fun z => z))
  have HAW := Lib.hid (HA.out.keeps (S := fun _ => False) (K1.out _) (fun _ _ z => z))
  clear k1 B0
  go_wp2_with fail
  go_loopw [6] (fun i wr => ∃ k : Nat, k ≤ m ∧ i = .int .i64 (k : Int) ∧ w1 = wr) (fun i _ => m + 1 - (intOf i).toNat)
  case atStart => exact ⟨0, Nat.zero_le _, rfl, rfl⟩
  case round =>
    obtain ⟨k, hk, rfl, rfl⟩ := hrel
    have k0 : (0 : Int) ≤ (k : Int) := by omega
    rcases Nat.lt_or_ge k m with hlt | hlt
    · obtain ⟨pp, hp⟩ : ∃ pp, l[k]? = some pp := ⟨_, List.getElem?_eq_getElem (by have := HL.out.1; omega)⟩
      obtain ⟨bb, o, rfl, hbb, c1, c2⟩ := HAW.out.at_ hp
      have hpt := HL.out.2 pp (List.mem_of_getElem? hp)
      obtain ⟨pt, pk⟩ := pp
      have hlt' : (k : Int) < (m : Int) := by omega
      have q2 : ¬ (1099511627776 : Int) < (pt : Int) := by simp only at hpt; omega
      simp only at c1 c2
      clear hp hpt hbb hk
      go_wp2
      go_roundw
      case rel => exact ⟨k + 1, by omega, by go_num, by simp⟩
      case measure => simp [intOf]; omega
    · have hlt' : ¬ (k : Int) < (m : Int) := by omega
      clear hk hlt
      go_wp2_with fail
      go_loopw [7] (fun i wr => ∃ k : Nat, k ≤ m ∧ i = .int .i64 (k : Int) ∧ (∀ S, Keeps S w wr) ∧ Blk wr w.heap.size 24 [.int .u64 (n : Int), .int .u64 (d : Int), .int .u64 (b : Int)] ∧ ∀ j, j < k → ¬ Full n d b l j) (fun i _ => m + 1 - (intOf i).toNat)
      case atStart => exact ⟨0, Nat.zero_le _, rfl, K1.out, B1.out, fun j h => absurd h (Nat.not_lt_zero _)⟩
      case round =>
        obtain ⟨k, hk, rfl, hkk, hb, hno⟩ := hrel
        have k0 : (0 : Int) ≤ (k : Int) := by omega
        have HK : Hid (∀ S, Keeps S w wr) := Lib.hid hkk
        have HB := Lib.hid hb
        have HNO := Lib.hid hno
        have HKM := Lib.hid hk
        rcases Nat.lt_or_ge k m with hlt | hlt
        · have hlt' : (k : Int) < (m : Int) := by omega
          have HLT := Lib.hid hlt
          have hfu := HF.out k hlt wr ((HA.out.keeps (S := fun _ => False) (hkk _) (fun _ _ z => z)).base (hkk (fun _ => False)).size)
          have HFU := Lib.hid hfu
          have x0 : wr.cell? ⟨w.heap.size, 0, none⟩ = some (.int .u64 (n : Int)) := by rw [hb.cell]; rfl
          have x1 : wr.cell? ⟨w.heap.size, 1, none⟩ = some (.int .u64 (d : Int)) := by rw [hb.cell]; rfl
          have x2 : wr.cell? ⟨w.heap.size, 2, none⟩ = some (.int .u64 (b : Int)) := by rw [hb.cell]; rfl
          clear hfu hkk hb hno hk hlt
          go_wp2_with fail
          refine HFU.out.mono ?_
          rintro e w3 ⟨r, rfl, hr, k3⟩
          have K3 : Hid (∀ S, Keeps S w w3) := Lib.hid (fun S => (HK.out S).trans (k3 S))
          have B3 := Lib.hid (Blk.keeps HB.out (k3 (fun _ => False)) (fun z => z))
          have HR := Lib.hid hr
          clear hr k3 x0 x1 x2
          cases r
          · go_wp2_with fail
            go_roundw
            case rel => exact ⟨k + 1, by have := HLT.out; omega, by go_num, K3.out, B3.out, fun j hj => by
              rcases Nat.lt_or_ge j k with q | q
              · exact HNO.out j q
              · have e : j = k := by omega
                subst e
                exact fun h => by have := HR.out.2 h; cases this⟩
            case measure => have := HLT.out; simp [intOf]; omega
          · go_wp2
            try rw [Exit.noGoto_ret]
            go_ret2
            exact ⟨k, rfl, ⟨by have := HL.out.1; have := HLT.out; omega, HNO.out, fun _ => (by first | exact HR.out.1 trivial | exact HR.out.1 rfl | simpa using HR.out)⟩, K3.out⟩
        · have hlt' : ¬ (k : Int) < (m : Int) := by omega
          have hkm : k = m := by omega
          have HE := Lib.hid hkm
          clear hkk hb hno hk hlt
          go_wp2
          try rw [Exit.noGoto_ret]
          go_ret2
          exact ⟨m, rfl, ⟨by have := HL.out.1; omega, by rw [← HE.out]; exact HNO.out, fun h => by have := HL.out.1; omega⟩, HK.out⟩
end
end Go.Proofs.Ytbiadglhfpapaaa.bk
