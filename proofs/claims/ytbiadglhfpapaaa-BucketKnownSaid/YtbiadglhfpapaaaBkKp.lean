/-
  patchbaylaw12's kept.
-/
import Derived.Test.YtbiadglhfpapaaaBkS
set_option linter.unusedVariables false
namespace Go.Proofs.Ytbiadglhfpapaaa.bk
open Go.RowKit Go.Proofs.Ytbiadglhfpapaaa.oc Go.Proofs.Ytbiadglhfpapaaa.mz
theorem pair_eq (a b c d : Int) (w : World) : (Op.equalIn 10000 50 (.agg #[.int .u64 a, .int .u64 b]) (.agg #[.int .u64 c, .int .u64 d])).run Try.prog w = .ok (a == c && b == d) w := by
  have h1 := Try.underlying22
  have h2 := run_underlying Try.underlying50
  unfold Op.equalIn
  rcases hac : a == c <;> rcases hbd : b == d <;>
    simp [h1, h2, hac, hbd, Try.isAgg22, Try.sizeOf22, Std.Legacy.Range.forIn_eq_forIn_range', Std.Legacy.Range.size, List.range', go_sem]
theorem room_at : ∀ j, j < 4 → (room 4)[j]? = some (77, j)
  | 0, _ => rfl
  | 1, _ => rfl
  | 2, _ => rfl
  | 3, _ => rfl
section
variable (w : World)
set_option maxRecDepth 100000 in
set_option maxHeartbeats 2000000 in
theorem kept_ (A A' : Option Addr) (m c m' c' : Nat) (l : List (Nat × Nat)) (ha : Asks w w.heap.size A (l ++ room 4)) (hw : Asks w w.heap.size A' l) (hl : l.length = m) (hm9 : m ≤ 100000000000) (hc : m + 4 ≤ c) : Calls Try.prog 25 #[.slice A m' c, .slice A' m c'] w fun e w' => e = .returned (.bool true) ∧ ∀ S, Keeps S w w' := by
  have HA := Lib.hid ha
  have HW := Lib.hid hw
  have HL := Lib.hid (show l.length = m ∧ m ≤ 100000000000 from ⟨hl, hm9⟩)
  have hm9' : (m : Int) ≤ 100000000000 := by omega
  have hc' : (m : Int) + 4 ≤ (c : Int) := by omega
  obtain ⟨p0, hp0⟩ : ∃ p0, (l ++ room 4)[0]? = some p0 := ⟨_, List.getElem?_eq_getElem (by rw [List.length_append, room_len]; omega)⟩
  obtain ⟨b, o, rfl, hb, hx1, hx2⟩ := ha.at_ hp0
  clear ha hw hl hm9 hc hp0 hb hx1 hx2 p0
  go_enter Try.func25, Try.ntmps25
  go_wp2_with fail
  go_loopw [6] (fun i wr => ∃ k : Nat, k ≤ m + 4 ∧ i = .int .i64 (k : Int) ∧ ∀ S, Keeps S w wr) (fun i _ => m + 5 - (intOf i).toNat)
  case atStart => exact ⟨0, Nat.zero_le _, rfl, fun S => Keeps.refl S w⟩
  case round =>
    obtain ⟨k, hk, rfl, hkw⟩ := hrel
    have HK := Lib.hid hkw
    have k0 : (0 : Int) ≤ (k : Int) := by omega
    rcases Nat.lt_or_ge k (m + 4) with hlt | hlt
    · have k1 : (k : Int) < (m : Int) + 4 := by omega
      have HLT := Lib.hid hlt
      rcases Nat.lt_or_ge k m with hkm | hkm
      · have k2 : (k : Int) < (m : Int) := by omega
        obtain ⟨pp, hp⟩ : ∃ pp, l[k]? = some pp := ⟨_, List.getElem?_eq_getElem (by have := HL.out; omega)⟩
        have hp2 : (l ++ room 4)[k]? = some pp := by rw [List.getElem?_append_left (by have := HL.out; omega)]; exact hp
        obtain ⟨P1, P2⟩ := pp
        have kw1 : ∀ S, Keeps S w (wr.alloc (.cells #[.int .u64 77, .int .u64 (IntKind.u64.wrap ((k : Int) - (m : Int)))] 50)) := fun S => (hkw S).alloc _
        have b1 := Blk.new wr 50 #[.int .u64 77, .int .u64 (IntKind.u64.wrap ((k : Int) - (m : Int)))]
        obtain ⟨b', o', rfl, hb', d1, d2⟩ := (HW.out.keeps (S := fun _ => False) (kw1 _) (fun _ _ z => z)).at_ hp
        simp only at d1 d2
        have kw2 : ∀ S, Keeps S w (wr.alloc (.cells #[.int .u64 (P1 : Int), .int .u64 (P2 : Int)] 50)) := fun S => (hkw S).alloc _
        have bz := Blk.new wr 50 #[.int .u64 (P1 : Int), .int .u64 (P2 : Int)]
        have z0 : (wr.alloc (.cells #[.int .u64 (P1 : Int), .int .u64 (P2 : Int)] 50)).cell? ⟨wr.heap.size, 0, none⟩ = some (.int .u64 (P1 : Int)) := by rw [bz.cell]; rfl
        have z1 : (wr.alloc (.cells #[.int .u64 (P1 : Int), .int .u64 (P2 : Int)] 50)).cell? ⟨wr.heap.size, 1, none⟩ = some (.int .u64 (P2 : Int)) := by rw [bz.cell]; rfl
        obtain ⟨b2, o2, e2, _, c1, c2⟩ := (HA.out.keeps (S := fun _ => False) (kw2 _) (fun _ _ z => z)).at_ hp2
        injection e2 with e2
        injection e2 with e2 e3
        subst e2; subst e3
        simp only at c1 c2
        have f0 := b1.frozen 0
        have f1 := (b1.put 0 (.int .u64 (P1 : Int))).frozen 1
        have KW := Lib.hid kw2
        have hpe := pair_eq
        clear hk hkm hlt hp hp2 kw1 kw2 b1 bz hb' hkw
        go_wp2_with fail
        clear d1 d2 f0 f1
        have y0 : (wr.alloc (.cells #[.int .u64 (P1 : Int), .int .u64 (P2 : Int)] 50)).drew.cell? ⟨b, o + k * 2, none⟩ = some (.int .u64 (P1 : Int)) := c1
        have y1 : (wr.alloc (.cells #[.int .u64 (P1 : Int), .int .u64 (P2 : Int)] 50)).drew.cell? ⟨b, o + k * 2 + 1, none⟩ = some (.int .u64 (P2 : Int)) := c2
        have y2 : (wr.alloc (.cells #[.int .u64 (P1 : Int), .int .u64 (P2 : Int)] 50)).drew.cell? ⟨wr.heap.size, 0, none⟩ = some (.int .u64 (P1 : Int)) := z0
        have y3 : (wr.alloc (.cells #[.int .u64 (P1 : Int), .int .u64 (P2 : Int)] 50)).drew.cell? ⟨wr.heap.size, 1, none⟩ = some (.int .u64 (P2 : Int)) := z1
        go_region_held3 (fun w' => w'.cell? ⟨b, o + k * 2, none⟩ = some (.int .u64 (P1 : Int)) ∧ w'.cell? ⟨b, o + k * 2 + 1, none⟩ = some (.int .u64 (P2 : Int)) ∧ w'.cell? ⟨wr.heap.size, 0, none⟩ = some (.int .u64 (P1 : Int)) ∧ w'.cell? ⟨wr.heap.size, 1, none⟩ = some (.int .u64 (P2 : Int))) (first | exact ⟨y0, y1, y2, y3⟩) ((first | fail))
        have KD : Hid (∀ S, Keeps S w (wr.alloc (.cells #[.int .u64 (P1 : Int), .int .u64 (P2 : Int)] 50)).drew) := Lib.hid (fun S => (KW.out S).drew)
        clear c1 c2 z0 z1 y0 y1 y2 y3 KW
        go_wp2_with fail
        go_roundw
        case rel => exact ⟨k + 1, HLT.out, by go_num, KD.out⟩
        case measure => have := HLT.out; simp [intOf]; omega
      · have k2 : ¬ (k : Int) < (m : Int) := by omega
        have k3 : (m : Int) ≤ (k : Int) := by omega
        have hp2 : (l ++ room 4)[k]? = some (77, k - m) := by
          rw [List.getElem?_append_right (by have := HL.out; omega), HL.out.1]
          exact room_at _ (by omega)
        have hX : ((k - m : Nat) : Int) = (k : Int) - (m : Int) := by omega
        have kw1 : ∀ S, Keeps S w (wr.alloc (.cells #[.int .u64 77, .int .u64 ((k : Int) - (m : Int))] 50)) := fun S => (hkw S).alloc _
        have bz := Blk.new wr 50 #[.int .u64 77, .int .u64 ((k : Int) - (m : Int))]
        have z0 : (wr.alloc (.cells #[.int .u64 77, .int .u64 ((k : Int) - (m : Int))] 50)).cell? ⟨wr.heap.size, 0, none⟩ = some (.int .u64 77) := by rw [bz.cell]; rfl
        have z1 : (wr.alloc (.cells #[.int .u64 77, .int .u64 ((k : Int) - (m : Int))] 50)).cell? ⟨wr.heap.size, 1, none⟩ = some (.int .u64 ((k : Int) - (m : Int))) := by rw [bz.cell]; rfl
        obtain ⟨b2, o2, e3, _, c1, c2⟩ := (HA.out.keeps (S := fun _ => False) (kw1 _) (fun _ _ z => z)).at_ hp2
        injection e3 with e3
        injection e3 with e3 e4
        subst e3; subst e4
        simp only [hX] at c1 c2
        replace c1 : (wr.alloc (.cells #[.int .u64 77, .int .u64 ((k : Int) - (m : Int))] 50)).cell? ⟨b, o + k * 2, none⟩ = some (.int .u64 77) := c1
        have KW := Lib.hid kw1
        have hpe := pair_eq
        clear hk hkm hlt hp2 kw1 bz hkw hX
        go_wp2_with fail
        have y0 : (wr.alloc (.cells #[.int .u64 77, .int .u64 ((k : Int) - (m : Int))] 50)).drew.cell? ⟨b, o + k * 2, none⟩ = some (.int .u64 77) := c1
        have y1 : (wr.alloc (.cells #[.int .u64 77, .int .u64 ((k : Int) - (m : Int))] 50)).drew.cell? ⟨b, o + k * 2 + 1, none⟩ = some (.int .u64 ((k : Int) - (m : Int))) := c2
        have y2 : (wr.alloc (.cells #[.int .u64 77, .int .u64 ((k : Int) - (m : Int))] 50)).drew.cell? ⟨wr.heap.size, 0, none⟩ = some (.int .u64 77) := z0
        have y3 : (wr.alloc (.cells #[.int .u64 77, .int .u64 ((k : Int) - (m : Int))] 50)).drew.cell? ⟨wr.heap.size, 1, none⟩ = some (.int .u64 ((k : Int) - (m : Int))) := z1
        go_region_held3 (fun w' => w'.cell? ⟨b, o + k * 2, none⟩ = some (.int .u64 77) ∧ w'.cell? ⟨b, o + k * 2 + 1, none⟩ = some (.int .u64 ((k : Int) - (m : Int))) ∧ w'.cell? ⟨wr.heap.size, 0, none⟩ = some (.int .u64 77) ∧ w'.cell? ⟨wr.heap.size, 1, none⟩ = some (.int .u64 ((k : Int) - (m : Int)))) (first | exact ⟨y0, y1, y2, y3⟩) ((first | fail))
        have KD : Hid (∀ S, Keeps S w (wr.alloc (.cells #[.int .u64 77, .int .u64 ((k : Int) - (m : Int))] 50)).drew) := Lib.hid (fun S => (KW.out S).drew)
        clear c1 c2 z0 z1 y0 y1 y2 y3 KW
        go_wp2_with fail
        go_roundw
        case rel => exact ⟨k + 1, HLT.out, by go_num, KD.out⟩
        case measure => have := HLT.out; simp [intOf]; omega
    · have hke : k = m + 4 := by omega
      have k1 : ¬ (k : Int) < (m : Int) + 4 := by omega
      clear hk hlt hkw
      go_wp2
      try rw [Exit.noGoto_ret]
      go_ret
      exact ⟨rfl, HK.out⟩
end
end Go.Proofs.Ytbiadglhfpapaaa.bk
