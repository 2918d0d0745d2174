/-
  The law FlowLanes, walked.
-/
import Derived.Test.YtdnddlmlbnachaaFwV
set_option linter.unusedVariables false
set_option linter.unusedSimpArgs false
namespace Go.Proofs.Ytdnddlmlbnachaa.fw
open Go.RowKit Go.Proofs.Ytdnddlmlbnachaa.oc Go.Proofs.Ytdnddlmlbnachaa.mz Go.Proofs.Ytdnddlmlbnachaa.pf Go.Proofs.Ytdnddlmlbnachaa.wh Go.Proofs.Ytdnddlmlbnachaa.qk Go.Proofs.Ytdnddlmlbnachaa.bys
theorem below_of {w w' : World} (h : ∀ S, Keeps S w w') : Below w.heap.size w w' := Keeps.below (h _)
set_option maxRecDepth 100000 in
set_option maxHeartbeats 2000000 in
theorem walk_flowLanes (w : World) (k : Ky) (hk : k.Wf) (n : Int) (n1 : -9223372036854775808 ≤ n) (n2 : n ≤ 9223372036854775807) (m : Nat) (hm : m < 18446744073709551616) :
    Calls Try.prog 5 #[kv k, .int .i64 n, .int .u64 (m : Int)] w fun e w' => e = .returned (.bool true) ∧ Below w.heap.size w w' := by
  obtain ⟨w1, hw1, k1, b1, s1⟩ := box1 w (kvc k) 31
  have HSZ := Lib.hid (key_sz hk)
  have HB1 := Lib.hid b1
  have HA := fun w => Lib.hid (plane_ w k hk n)
  have HR := fun w => Lib.hid (rlane_ w k hk n)
  have HP := fun w => Lib.hid (ppart_ w k hk m hm)
  have HQ := fun w => Lib.hid (rpart_ w k hk m hm)
  have HE := fun w => Lib.hid (awake_ w)
  have HW := Lib.hid hw1
  have K1 : Hid (∀ S, Keeps S w w1) := Lib.hid k1
  unfold kv at HA HR HP HQ ⊢
  clear hw1 k1 b1 s1 hk hm n1 n2
  generalize kvc k = C at *
  generalize laneV k n = lv at *
  generalize laneE n = le at *
  generalize partV k m = pv at *
  generalize partE m = pe at *
  go_enter Try.func5, Try.ntmps5
  go_wp2_with (first | (with_reducible rw [← HW.out]; refine wpList_load_mid rfl 31 _ rfl w.heap.size 0 rfl C _ (Blk.range HB1.out) Try.underlying31 rfl HSZ.out ?_))
  refine (HA _).out.mono ?_
  rintro e w2 ⟨rfl, k2⟩
  have K2 : Hid (∀ S, Keeps S w w2) := Lib.hid (fun S => (K1.out S).trans (k2 S))
  have HB2 := Lib.hid (Blk.keeps HB1.out (k2 (fun _ => False)) (fun z => z))
  clear k2
  go_wp2_with (refine wpList_load_mid rfl 31 _ rfl w.heap.size 0 rfl C _ (Blk.range HB2.out) Try.underlying31 rfl HSZ.out ?_)
  refine (HR _).out.mono ?_
  rintro e w3 ⟨rfl, k3⟩
  have K3 : Hid (∀ S, Keeps S w w3) := Lib.hid (fun S => (K2.out S).trans (k3 S))
  have HB3 := Lib.hid (Blk.keeps HB2.out (k3 (fun _ => False)) (fun z => z))
  clear k3
  go_wp2_with (refine wpList_load_mid rfl 31 _ rfl w.heap.size 0 rfl C _ (Blk.range HB3.out) Try.underlying31 rfl HSZ.out ?_)
  refine (HP _).out.mono ?_
  rintro e w4 ⟨rfl, k4⟩
  have K4 : Hid (∀ S, Keeps S w w4) := Lib.hid (fun S => (K3.out S).trans (k4 S))
  have HB4 := Lib.hid (Blk.keeps HB3.out (k4 (fun _ => False)) (fun z => z))
  clear k4
  go_wp2_with (refine wpList_load_mid rfl 31 _ rfl w.heap.size 0 rfl C _ (Blk.range HB4.out) Try.underlying31 rfl HSZ.out ?_)
  refine (HQ _).out.mono ?_
  rintro e w5 ⟨rfl, k5⟩
  have K5 : Hid (∀ S, Keeps S w w5) := Lib.hid (fun S => (K4.out S).trans (k5 S))
  clear k5
  go_wp2_with fail
  refine (HE _).out.mono ?_
  rintro e w6 ⟨rfl, k6⟩
  have K6 : Hid (∀ S, Keeps S w w6) := Lib.hid (fun S => (K5.out S).trans (k6 S))
  clear k6
  go_wp2
  try rw [Exit.noGoto_ret]
  go_ret
  exact ⟨rfl, below_of K6.out⟩
end Go.Proofs.Ytdnddlmlbnachaa.fw
