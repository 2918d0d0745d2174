/-
  Two prefixes are laid in boxes of their own.
-/
import Derived.Test.YtgcdhfpbmcfedaaGreatDoorZPiJ
set_option linter.unusedVariables false
set_option linter.unusedSimpArgs false
namespace Go.Proofs.YtgcdhfpbmcfedaaGreatDoor.pf
open Go.RowKit Go.Proofs.YtgcdhfpbmcfedaaGreatDoor.oc Go.Proofs.YtgcdhfpbmcfedaaGreatDoor.mz Go.Proofs.YtgcdhfpbmcfedaaGreatDoor.wh Go.Proofs.YtgcdhfpbmcfedaaGreatDoor.qk
/-- two prefixes are laid in boxes of their own -/
theorem box_two_px (w : World) (p q : Px) (hp : p.a.Wf) (hq : q.a.Wf) : ∃ w2, w2 = (((w.alloc (.cells #[.bool false, .int .u8 0, .int .u8 0, .int .u8 0, .int .u8 0, .int .u8 0, .int .u8 0, .int .u8 0, .int .u8 0, .int .u8 0, .int .u8 0, .int .u8 0, .int .u8 0, .int .u8 0, .int .u8 0, .int .u8 0, .int .u8 0, .int .i64 0] 28)).alloc (.cells #[.bool false, .int .u8 0, .int .u8 0, .int .u8 0, .int .u8 0, .int .u8 0, .int .u8 0, .int .u8 0, .int .u8 0, .int .u8 0, .int .u8 0, .int .u8 0, .int .u8 0, .int .u8 0, .int .u8 0, .int .u8 0, .int .u8 0, .int .i64 0] 28)).setCells w.heap.size 0 (pxc p)).setCells (w.heap.size + 1) 0 (pxc q) ∧
    (((w.alloc (.cells #[.bool false, .int .u8 0, .int .u8 0, .int .u8 0, .int .u8 0, .int .u8 0, .int .u8 0, .int .u8 0, .int .u8 0, .int .u8 0, .int .u8 0, .int .u8 0, .int .u8 0, .int .u8 0, .int .u8 0, .int .u8 0, .int .u8 0, .int .i64 0] 28)).alloc (.cells #[.bool false, .int .u8 0, .int .u8 0, .int .u8 0, .int .u8 0, .int .u8 0, .int .u8 0, .int .u8 0, .int .u8 0, .int .u8 0, .int .u8 0, .int .u8 0, .int .u8 0, .int .u8 0, .int .u8 0, .int .u8 0, .int .u8 0, .int .i64 0] 28)).there w.heap.size 0 (pxc p).toArray.size ∧ (Tryz.prog.info? 28).map (·.size) = some (pxc p).toArray.size ∧ (pxc p).toArray.all (·.oneCell') = true) ∧
    ((((w.alloc (.cells #[.bool false, .int .u8 0, .int .u8 0, .int .u8 0, .int .u8 0, .int .u8 0, .int .u8 0, .int .u8 0, .int .u8 0, .int .u8 0, .int .u8 0, .int .u8 0, .int .u8 0, .int .u8 0, .int .u8 0, .int .u8 0, .int .u8 0, .int .i64 0] 28)).alloc (.cells #[.bool false, .int .u8 0, .int .u8 0, .int .u8 0, .int .u8 0, .int .u8 0, .int .u8 0, .int .u8 0, .int .u8 0, .int .u8 0, .int .u8 0, .int .u8 0, .int .u8 0, .int .u8 0, .int .u8 0, .int .u8 0, .int .u8 0, .int .i64 0] 28)).setCells w.heap.size 0 (pxc p)).there (w.heap.size + 1) 0 (pxc q).toArray.size ∧ (Tryz.prog.info? 28).map (·.size) = some (pxc q).toArray.size ∧ (pxc q).toArray.all (·.oneCell') = true) ∧
    Blk w2 w.heap.size 28 (pxc p) ∧ Blk w2 (w.heap.size + 1) 28 (pxc q) ∧ ∀ S, Keeps S w w2 := by
  obtain ⟨w3, hw3, B3, K3⟩ := new_zp w
  obtain ⟨w4, hw4, B4, K4⟩ := new_zp w3
  have e3 : w3.heap.size = w.heap.size + 1 := by rw [hw3]; simp
  obtain ⟨o1, o2, o3, o5, o6⟩ := over_px (c := p) hp (Blk.keeps B3 (K4 (fun _ => False)) (fun z => z)) rfl
  have B5 := Blk.keeps B4 o6 (by omega)
  obtain ⟨q1, q2, q3, q5, q6⟩ := over_px (c := q) hq B5 rfl
  have o7 := Blk.keeps o5 q6 (by omega)
  rw [e3] at q1 q5 q6 o7
  have KK := glue_all (Nat.le_refl _) (fun S => (K3 S).trans (K4 S)) o6
  have KL := glue_all (by omega) KK q6
  subst hw4 hw3
  exact ⟨_, rfl, ⟨o1, o2, o3⟩, ⟨q1, q2, q3⟩, o7, q5, KL⟩
end Go.Proofs.YtgcdhfpbmcfedaaGreatDoor.pf
