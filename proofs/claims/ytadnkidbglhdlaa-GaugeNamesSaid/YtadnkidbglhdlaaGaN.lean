/-
  GaugeNews, for any arguments.
-/
import Derived.Test.YtadnkidbglhdlaaGaW
import Derived.Test.YtadnkidbglhdlaaMzMa
set_option linter.unusedVariables false
set_option linter.unusedSimpArgs false
namespace Go.Proofs.Ytadnkidbglhdlaa.ga
open Go.RowKit Go.Proofs.Ytadnkidbglhdlaa.oc Go.Proofs.Ytadnkidbglhdlaa.mz Go.Proofs.Ytadnkidbglhdlaa.at_ Go.Proofs.Ytadnkidbglhdlaa.gt Go.Proofs.Ytadnkidbglhdlaa.gw
theorem br_nil (w : World) : (binOp .eql 27 (.pointer none) (.pointer none)).run Try.prog w = .ok (.bool true) w := by kernel_rfl
theorem gg_nil (w : World) : (binOp .eql 23 (.pointer none) (.pointer none)).run Try.prog w = .ok (.bool true) w := by kernel_rfl
section
variable (l f t : Nat) (w : World)

set_option maxRecDepth 100000 in
set_option maxHeartbeats 4000000 in
theorem news_low_flow (hl : ¬ 1 ≤ l) (hb : ¬ 1 ≤ f) : Calls Try.prog 3 #[.int .u64 (l : Int), .int .u64 (f : Int), .int .u64 (t : Int)] w fun e w' => e = .returned (.bool true) ∧ ∀ S, Keeps S w w' := by
  have q1 : ¬ (1 : Int) ≤ (l : Int) := by omega
  have q0 : ¬ (1099511627776 : Int) < (l : Int) := by omega
  have r1 : ¬ (1 : Int) ≤ (f : Int) := by omega
  have HN := Lib.hid (gag.new_err l w (by omega))
  have HB := fun w => Lib.hid (newb_err f t w (by unfold MayB; omega))
  have HW := fun w => Lib.hid (awake_ w)
  have hn1 := br_nil
  have hn2 := gg_nil
  have hp1 := br_ptr
  have hp2 := gg_ptr
  clear hl hb
  go_enter Try.func3, Try.ntmps3
  go_wp2_with fail
  refine HN.out.mono ?_
  rintro e w1 ⟨rfl, rfl⟩
  have K1 : Hid (∀ S, Keeps S w w) := Lib.hid (fun S => Keeps.refl S w)
  go_wp2_with fail
  refine (HB w).out.mono ?_
  rintro e w2 ⟨rfl, rfl⟩
  go_wp2_with fail
  refine (HW w).out.mono ?_
  rintro e w3 ⟨rfl, k3⟩
  have K3 : Hid (∀ S, Keeps S w w3) := Lib.hid k3
  clear k3
  go_wp2
  try rw [Exit.noGoto_ret]
  go_ret
  exact ⟨rfl, fun S => (K1.out S).trans (K3.out S)⟩

set_option maxRecDepth 100000 in
set_option maxHeartbeats 4000000 in
theorem news_low_fhigh (hl : ¬ 1 ≤ l) (hb : 1048576 < f) : Calls Try.prog 3 #[.int .u64 (l : Int), .int .u64 (f : Int), .int .u64 (t : Int)] w fun e w' => e = .returned (.bool true) ∧ ∀ S, Keeps S w w' := by
  have q1 : ¬ (1 : Int) ≤ (l : Int) := by omega
  have q0 : ¬ (1099511627776 : Int) < (l : Int) := by omega
  have r1 : (1 : Int) ≤ (f : Int) := by omega
  have r2 : ¬ (f : Int) ≤ 1048576 := by omega
  have HN := Lib.hid (gag.new_err l w (by omega))
  have HB := fun w => Lib.hid (newb_err f t w (by unfold MayB; omega))
  have HW := fun w => Lib.hid (awake_ w)
  have hn1 := br_nil
  have hn2 := gg_nil
  have hp1 := br_ptr
  have hp2 := gg_ptr
  clear hl hb
  go_enter Try.func3, Try.ntmps3
  go_wp2_with fail
  refine HN.out.mono ?_
  rintro e w1 ⟨rfl, rfl⟩
  have K1 : Hid (∀ S, Keeps S w w) := Lib.hid (fun S => Keeps.refl S w)
  go_wp2_with fail
  refine (HB w).out.mono ?_
  rintro e w2 ⟨rfl, rfl⟩
  go_wp2_with fail
  refine (HW w).out.mono ?_
  rintro e w3 ⟨rfl, k3⟩
  have K3 : Hid (∀ S, Keeps S w w3) := Lib.hid k3
  clear k3
  go_wp2
  try rw [Exit.noGoto_ret]
  go_ret
  exact ⟨rfl, fun S => (K1.out S).trans (K3.out S)⟩

set_option maxRecDepth 100000 in
set_option maxHeartbeats 4000000 in
theorem news_low_tlow (hl : ¬ 1 ≤ l) (hb : 1 ≤ f ∧ f ≤ 1048576 ∧ ¬ 1 ≤ t) : Calls Try.prog 3 #[.int .u64 (l : Int), .int .u64 (f : Int), .int .u64 (t : Int)] w fun e w' => e = .returned (.bool true) ∧ ∀ S, Keeps S w w' := by
  have q1 : ¬ (1 : Int) ≤ (l : Int) := by omega
  have q0 : ¬ (1099511627776 : Int) < (l : Int) := by omega
  have r1 : (1 : Int) ≤ (f : Int) := by omega
  have r2 : (f : Int) ≤ 1048576 := by omega
  have r3 : ¬ (1 : Int) ≤ (t : Int) := by omega
  have HN := Lib.hid (gag.new_err l w (by omega))
  have HB := fun w => Lib.hid (newb_err f t w (by unfold MayB; omega))
  have HW := fun w => Lib.hid (awake_ w)
  have hn1 := br_nil
  have hn2 := gg_nil
  have hp1 := br_ptr
  have hp2 := gg_ptr
  clear hl hb
  go_enter Try.func3, Try.ntmps3
  go_wp2_with fail
  refine HN.out.mono ?_
  rintro e w1 ⟨rfl, rfl⟩
  have K1 : Hid (∀ S, Keeps S w w) := Lib.hid (fun S => Keeps.refl S w)
  go_wp2_with fail
  refine (HB w).out.mono ?_
  rintro e w2 ⟨rfl, rfl⟩
  go_wp2_with fail
  refine (HW w).out.mono ?_
  rintro e w3 ⟨rfl, k3⟩
  have K3 : Hid (∀ S, Keeps S w w3) := Lib.hid k3
  clear k3
  go_wp2
  try rw [Exit.noGoto_ret]
  go_ret
  exact ⟨rfl, fun S => (K1.out S).trans (K3.out S)⟩

set_option maxRecDepth 100000 in
set_option maxHeartbeats 4000000 in
theorem news_low_thigh (hl : ¬ 1 ≤ l) (hb : 1 ≤ f ∧ f ≤ 1048576 ∧ 1099511627776 < t) : Calls Try.prog 3 #[.int .u64 (l : Int), .int .u64 (f : Int), .int .u64 (t : Int)] w fun e w' => e = .returned (.bool true) ∧ ∀ S, Keeps S w w' := by
  have q1 : ¬ (1 : Int) ≤ (l : Int) := by omega
  have q0 : ¬ (1099511627776 : Int) < (l : Int) := by omega
  have r1 : (1 : Int) ≤ (f : Int) := by omega
  have r2 : (f : Int) ≤ 1048576 := by omega
  have r3 : (1 : Int) ≤ (t : Int) := by omega
  have r4 : ¬ (t : Int) ≤ 1099511627776 := by omega
  have HN := Lib.hid (gag.new_err l w (by omega))
  have HB := fun w => Lib.hid (newb_err f t w (by unfold MayB; omega))
  have HW := fun w => Lib.hid (awake_ w)
  have hn1 := br_nil
  have hn2 := gg_nil
  have hp1 := br_ptr
  have hp2 := gg_ptr
  clear hl hb
  go_enter Try.func3, Try.ntmps3
  go_wp2_with fail
  refine HN.out.mono ?_
  rintro e w1 ⟨rfl, rfl⟩
  have K1 : Hid (∀ S, Keeps S w w) := Lib.hid (fun S => Keeps.refl S w)
  go_wp2_with fail
  refine (HB w).out.mono ?_
  rintro e w2 ⟨rfl, rfl⟩
  go_wp2_with fail
  refine (HW w).out.mono ?_
  rintro e w3 ⟨rfl, k3⟩
  have K3 : Hid (∀ S, Keeps S w w3) := Lib.hid k3
  clear k3
  go_wp2
  try rw [Exit.noGoto_ret]
  go_ret
  exact ⟨rfl, fun S => (K1.out S).trans (K3.out S)⟩

set_option maxRecDepth 100000 in
set_option maxHeartbeats 4000000 in
theorem news_low_ok (hl : ¬ 1 ≤ l) (hb : MayB f t) : Calls Try.prog 3 #[.int .u64 (l : Int), .int .u64 (f : Int), .int .u64 (t : Int)] w fun e w' => e = .returned (.bool true) ∧ ∀ S, Keeps S w w' := by
  have q1 : ¬ (1 : Int) ≤ (l : Int) := by omega
  have q0 : ¬ (1099511627776 : Int) < (l : Int) := by omega
  have r1 : (1 : Int) ≤ (f : Int) := by unfold MayB at hb; omega
  have r2 : (f : Int) ≤ 1048576 := by unfold MayB at hb; omega
  have r3 : (1 : Int) ≤ (t : Int) := by unfold MayB at hb; omega
  have r4 : (t : Int) ≤ 1099511627776 := by unfold MayB at hb; omega
  have HN := Lib.hid (gag.new_err l w (by omega))
  have HB := fun w => Lib.hid (newb_ok f t w hb)
  have HW := fun w => Lib.hid (awake_ w)
  have HLL := Lib.hid hl
  have hn1 := br_nil
  have hn2 := gg_nil
  have hp1 := br_ptr
  have hp2 := gg_ptr
  clear hl hb
  go_enter Try.func3, Try.ntmps3
  go_wp2_with fail
  refine HN.out.mono ?_
  rintro e w1 ⟨rfl, rfl⟩
  have K1 : Hid (∀ S, Keeps S w w) := Lib.hid (fun S => Keeps.refl S w)
  go_wp2_with fail
  refine (HB w).out.mono ?_
  rintro e w2 ⟨rfl, d2, k2⟩
  have HD : Hid (w.heap.size ≤ w.heap.size) := Lib.hid ((K1.out (fun _ => False)).size)
  have K2 : Hid (∀ S, Keeps S w w2) := Lib.hid (fun S => (K1.out S).trans (k2 S))
  have D2 := Lib.hid d2
  have HNN := Lib.hid (new_notes w2)
  clear d2 k2
  generalize hgd : w.heap.size = D at *
  have HGD := Lib.hid hgd
  clear hgd
  go_wp2_with fail
  refine HNN.out.mono ?_
  rintro e w3 ⟨rfl, n3, k3⟩
  have K3 : Hid (∀ S, Keeps S w w3) := Lib.hid (fun S => (K2.out S).trans (k3 S))
  have HL2 := Lib.hid (show D < w2.heap.size from D2.out.lt)
  have HL3 := Lib.hid (show w.heap.size ≤ w2.heap.size from (K2.out (fun _ => False)).size)
  have hz3 := n3.above
  have s3 : St w3 D f t w2.heap.size 0 (.iface 31 (.pointer (some ⟨w2.heap.size, 0, none⟩))) [] (· = w2.heap.size) := ⟨D2.out.keeps (k3 (fun _ => False)) (fun z => z), .inr ⟨rfl, n3⟩, fun z => by have := HL2.out; omega⟩
  have hzz : ∀ x, x = w2.heap.size → x < w3.heap.size := fun x hx => (hz3 x hx).2
  clear n3 k3 HNN hz3
  generalize w2.heap.size = N at *
  have hA := ask_closed D f t N 0 0 0 l _ [] _ w3 s3 (by decide) (by have := HLL.out; omega) (by unfold Wd; omega) rfl
  have HA := Lib.hid hA
  have S3 := Lib.hid s3
  clear hA s3 hzz
  go_wp2_with fail
  refine HA.out.mono ?_
  rintro e w4 ⟨rfl, l4⟩
  have hT := tell_same D f t N 0 0 0 l _ _ _ w4 true (l4.st S3.out) (by decide) (by have := HLL.out; omega) (by unfold Wd; omega) (by omega) rfl
  have HT := Lib.hid hT
  have L4 := Lib.hid l4
  clear hT l4 HA
  go_wp2_with fail
  refine HT.out.mono ?_
  rintro e w5 ⟨rfl, l5⟩
  have l35 := L4.out.trans l5
  have n5 := l35.gate
  have kk := l35.keep
  have HM := Lib.hid (marks_any N w5 _ _ (by rcases n5 with z | z; cases z; exact z.2) (by decide))
  have K5 := Lib.hid kk
  clear l35 n5 kk l5 HT
  go_wp2_with fail
  refine HM.out.mono ?_
  rintro e w6 ⟨A', c', rfl, -, k6⟩
  have K6 : Hid (∀ S, Keeps S w5 w6) := Lib.hid k6
  clear k6 HM
  go_wp2_with fail
  refine (HW w6).out.mono ?_
  rintro e w7 ⟨rfl, k7⟩
  have K7 : Hid (∀ S, Keeps S w6 w7) := Lib.hid k7
  clear k7
  go_wp2
  try rw [Exit.noGoto_ret]
  go_ret
  exact ⟨rfl, fun S => ((((K3.out (fun b => b = D ∨ b = N)).trans K5.out).trans (K6.out _)).trans (K7.out _)).mono (fun b hb z => absurd z (by have := HD.out; have := HGD.out; have := HL2.out; have := HL3.out; omega))⟩

set_option maxRecDepth 100000 in
set_option maxHeartbeats 4000000 in
theorem news_ok_flow (hl : 1 ≤ l ∧ l ≤ 1048576) (hb : ¬ 1 ≤ f) : Calls Try.prog 3 #[.int .u64 (l : Int), .int .u64 (f : Int), .int .u64 (t : Int)] w fun e w' => e = .returned (.bool true) ∧ ∀ S, Keeps S w w' := by
  have q1 : (1 : Int) ≤ (l : Int) := by omega
  have q2 : (l : Int) ≤ 1048576 := by omega
  have q0 : ¬ (1099511627776 : Int) < (l : Int) := by omega
  have r1 : ¬ (1 : Int) ≤ (f : Int) := by omega
  have HN := Lib.hid (gag.new_ok l w hl.1 hl.2)
  have HB := fun w => Lib.hid (newb_err f t w (by unfold MayB; omega))
  have HW := fun w => Lib.hid (awake_ w)
  have hn1 := br_nil
  have hn2 := gg_nil
  have hp1 := br_ptr
  have hp2 := gg_ptr
  clear hl hb
  go_enter Try.func3, Try.ntmps3
  go_wp2_with fail
  refine HN.out.mono ?_
  rintro e w1 ⟨G, C, E, rfl, g1, -, k1⟩
  have K1 : Hid (∀ S, Keeps S w w1) := Lib.hid k1
  clear g1 k1
  go_wp2_with fail
  refine (HB w1).out.mono ?_
  rintro e w2 ⟨rfl, rfl⟩
  go_wp2_with fail
  refine (HW w1).out.mono ?_
  rintro e w3 ⟨rfl, k3⟩
  have K3 : Hid (∀ S, Keeps S w1 w3) := Lib.hid k3
  clear k3
  go_wp2
  try rw [Exit.noGoto_ret]
  go_ret
  exact ⟨rfl, fun S => (K1.out S).trans (K3.out S)⟩

set_option maxRecDepth 100000 in
set_option maxHeartbeats 4000000 in
theorem news_ok_fhigh (hl : 1 ≤ l ∧ l ≤ 1048576) (hb : 1048576 < f) : Calls Try.prog 3 #[.int .u64 (l : Int), .int .u64 (f : Int), .int .u64 (t : Int)] w fun e w' => e = .returned (.bool true) ∧ ∀ S, Keeps S w w' := by
  have q1 : (1 : Int) ≤ (l : Int) := by omega
  have q2 : (l : Int) ≤ 1048576 := by omega
  have q0 : ¬ (1099511627776 : Int) < (l : Int) := by omega
  have r1 : (1 : Int) ≤ (f : Int) := by omega
  have r2 : ¬ (f : Int) ≤ 1048576 := by omega
  have HN := Lib.hid (gag.new_ok l w hl.1 hl.2)
  have HB := fun w => Lib.hid (newb_err f t w (by unfold MayB; omega))
  have HW := fun w => Lib.hid (awake_ w)
  have hn1 := br_nil
  have hn2 := gg_nil
  have hp1 := br_ptr
  have hp2 := gg_ptr
  clear hl hb
  go_enter Try.func3, Try.ntmps3
  go_wp2_with fail
  refine HN.out.mono ?_
  rintro e w1 ⟨G, C, E, rfl, g1, -, k1⟩
  have K1 : Hid (∀ S, Keeps S w w1) := Lib.hid k1
  clear g1 k1
  go_wp2_with fail
  refine (HB w1).out.mono ?_
  rintro e w2 ⟨rfl, rfl⟩
  go_wp2_with fail
  refine (HW w1).out.mono ?_
  rintro e w3 ⟨rfl, k3⟩
  have K3 : Hid (∀ S, Keeps S w1 w3) := Lib.hid k3
  clear k3
  go_wp2
  try rw [Exit.noGoto_ret]
  go_ret
  exact ⟨rfl, fun S => (K1.out S).trans (K3.out S)⟩

set_option maxRecDepth 100000 in
set_option maxHeartbeats 4000000 in
theorem news_ok_tlow (hl : 1 ≤ l ∧ l ≤ 1048576) (hb : 1 ≤ f ∧ f ≤ 1048576 ∧ ¬ 1 ≤ t) : Calls Try.prog 3 #[.int .u64 (l : Int), .int .u64 (f : Int), .int .u64 (t : Int)] w fun e w' => e = .returned (.bool true) ∧ ∀ S, Keeps S w w' := by
  have q1 : (1 : Int) ≤ (l : Int) := by omega
  have q2 : (l : Int) ≤ 1048576 := by omega
  have q0 : ¬ (1099511627776 : Int) < (l : Int) := by omega
  have r1 : (1 : Int) ≤ (f : Int) := by omega
  have r2 : (f : Int) ≤ 1048576 := by omega
  have r3 : ¬ (1 : Int) ≤ (t : Int) := by omega
  have HN := Lib.hid (gag.new_ok l w hl.1 hl.2)
  have HB := fun w => Lib.hid (newb_err f t w (by unfold MayB; omega))
  have HW := fun w => Lib.hid (awake_ w)
  have hn1 := br_nil
  have hn2 := gg_nil
  have hp1 := br_ptr
  have hp2 := gg_ptr
  clear hl hb
  go_enter Try.func3, Try.ntmps3
  go_wp2_with fail
  refine HN.out.mono ?_
  rintro e w1 ⟨G, C, E, rfl, g1, -, k1⟩
  have K1 : Hid (∀ S, Keeps S w w1) := Lib.hid k1
  clear g1 k1
  go_wp2_with fail
  refine (HB w1).out.mono ?_
  rintro e w2 ⟨rfl, rfl⟩
  go_wp2_with fail
  refine (HW w1).out.mono ?_
  rintro e w3 ⟨rfl, k3⟩
  have K3 : Hid (∀ S, Keeps S w1 w3) := Lib.hid k3
  clear k3
  go_wp2
  try rw [Exit.noGoto_ret]
  go_ret
  exact ⟨rfl, fun S => (K1.out S).trans (K3.out S)⟩

set_option maxRecDepth 100000 in
set_option maxHeartbeats 4000000 in
theorem news_ok_thigh (hl : 1 ≤ l ∧ l ≤ 1048576) (hb : 1 ≤ f ∧ f ≤ 1048576 ∧ 1099511627776 < t) : Calls Try.prog 3 #[.int .u64 (l : Int), .int .u64 (f : Int), .int .u64 (t : Int)] w fun e w' => e = .returned (.bool true) ∧ ∀ S, Keeps S w w' := by
  have q1 : (1 : Int) ≤ (l : Int) := by omega
  have q2 : (l : Int) ≤ 1048576 := by omega
  have q0 : ¬ (1099511627776 : Int) < (l : Int) := by omega
  have r1 : (1 : Int) ≤ (f : Int) := by omega
  have r2 : (f : Int) ≤ 1048576 := by omega
  have r3 : (1 : Int) ≤ (t : Int) := by omega
  have r4 : ¬ (t : Int) ≤ 1099511627776 := by omega
  have HN := Lib.hid (gag.new_ok l w hl.1 hl.2)
  have HB := fun w => Lib.hid (newb_err f t w (by unfold MayB; omega))
  have HW := fun w => Lib.hid (awake_ w)
  have hn1 := br_nil
  have hn2 := gg_nil
  have hp1 := br_ptr
  have hp2 := gg_ptr
  clear hl hb
  go_enter Try.func3, Try.ntmps3
  go_wp2_with fail
  refine HN.out.mono ?_
  rintro e w1 ⟨G, C, E, rfl, g1, -, k1⟩
  have K1 : Hid (∀ S, Keeps S w w1) := Lib.hid k1
  clear g1 k1
  go_wp2_with fail
  refine (HB w1).out.mono ?_
  rintro e w2 ⟨rfl, rfl⟩
  go_wp2_with fail
  refine (HW w1).out.mono ?_
  rintro e w3 ⟨rfl, k3⟩
  have K3 : Hid (∀ S, Keeps S w1 w3) := Lib.hid k3
  clear k3
  go_wp2
  try rw [Exit.noGoto_ret]
  go_ret
  exact ⟨rfl, fun S => (K1.out S).trans (K3.out S)⟩

set_option maxRecDepth 100000 in
set_option maxHeartbeats 4000000 in
theorem news_ok_ok (hl : 1 ≤ l ∧ l ≤ 1048576) (hb : MayB f t) : Calls Try.prog 3 #[.int .u64 (l : Int), .int .u64 (f : Int), .int .u64 (t : Int)] w fun e w' => e = .returned (.bool true) ∧ ∀ S, Keeps S w w' := by
  have q1 : (1 : Int) ≤ (l : Int) := by omega
  have q2 : (l : Int) ≤ 1048576 := by omega
  have q0 : ¬ (1099511627776 : Int) < (l : Int) := by omega
  have r1 : (1 : Int) ≤ (f : Int) := by unfold MayB at hb; omega
  have r2 : (f : Int) ≤ 1048576 := by unfold MayB at hb; omega
  have r3 : (1 : Int) ≤ (t : Int) := by unfold MayB at hb; omega
  have r4 : (t : Int) ≤ 1099511627776 := by unfold MayB at hb; omega
  have HN := Lib.hid (gag.new_ok l w hl.1 hl.2)
  have HB := fun w => Lib.hid (newb_ok f t w hb)
  have HW := fun w => Lib.hid (awake_ w)
  have HLL := Lib.hid hl
  have hn1 := br_nil
  have hn2 := gg_nil
  have hp1 := br_ptr
  have hp2 := gg_ptr
  clear hl hb
  go_enter Try.func3, Try.ntmps3
  go_wp2_with fail
  refine HN.out.mono ?_
  rintro e w1 ⟨G, C, E, rfl, g1, -, k1⟩
  have K1 : Hid (∀ S, Keeps S w w1) := Lib.hid k1
  clear g1 k1
  go_wp2_with fail
  refine (HB w1).out.mono ?_
  rintro e w2 ⟨rfl, d2, k2⟩
  have HD : Hid (w.heap.size ≤ w1.heap.size) := Lib.hid ((K1.out (fun _ => False)).size)
  have K2 : Hid (∀ S, Keeps S w w2) := Lib.hid (fun S => (K1.out S).trans (k2 S))
  have D2 := Lib.hid d2
  have HNN := Lib.hid (new_notes w2)
  clear d2 k2
  generalize hgd : w1.heap.size = D at *
  have HGD := Lib.hid hgd
  clear hgd
  go_wp2_with fail
  refine HNN.out.mono ?_
  rintro e w3 ⟨rfl, n3, k3⟩
  have K3 : Hid (∀ S, Keeps S w w3) := Lib.hid (fun S => (K2.out S).trans (k3 S))
  have HL2 := Lib.hid (show D < w2.heap.size from D2.out.lt)
  have HL3 := Lib.hid (show w.heap.size ≤ w2.heap.size from (K2.out (fun _ => False)).size)
  have hz3 := n3.above
  have s3 : St w3 D f t w2.heap.size 0 (.iface 31 (.pointer (some ⟨w2.heap.size, 0, none⟩))) [] (· = w2.heap.size) := ⟨D2.out.keeps (k3 (fun _ => False)) (fun z => z), .inr ⟨rfl, n3⟩, fun z => by have := HL2.out; omega⟩
  have hzz : ∀ x, x = w2.heap.size → x < w3.heap.size := fun x hx => (hz3 x hx).2
  clear n3 k3 HNN hz3
  generalize w2.heap.size = N at *
  have hA := ask_closed D f t N 0 0 0 l _ [] _ w3 s3 (by decide) (by have := HLL.out; omega) (by unfold Wd; omega) rfl
  have HA := Lib.hid hA
  have S3 := Lib.hid s3
  clear hA s3 hzz
  go_wp2_with fail
  refine HA.out.mono ?_
  rintro e w4 ⟨rfl, l4⟩
  have hT := tell_same D f t N 0 0 0 l _ _ _ w4 true (l4.st S3.out) (by decide) (by have := HLL.out; omega) (by unfold Wd; omega) (by omega) rfl
  have HT := Lib.hid hT
  have L4 := Lib.hid l4
  clear hT l4 HA
  go_wp2_with fail
  refine HT.out.mono ?_
  rintro e w5 ⟨rfl, l5⟩
  have l35 := L4.out.trans l5
  have n5 := l35.gate
  have kk := l35.keep
  have HM := Lib.hid (marks_any N w5 _ _ (by rcases n5 with z | z; cases z; exact z.2) (by decide))
  have K5 := Lib.hid kk
  clear l35 n5 kk l5 HT
  go_wp2_with fail
  refine HM.out.mono ?_
  rintro e w6 ⟨A', c', rfl, -, k6⟩
  have K6 : Hid (∀ S, Keeps S w5 w6) := Lib.hid k6
  clear k6 HM
  go_wp2_with fail
  refine (HW w6).out.mono ?_
  rintro e w7 ⟨rfl, k7⟩
  have K7 : Hid (∀ S, Keeps S w6 w7) := Lib.hid k7
  clear k7
  go_wp2
  try rw [Exit.noGoto_ret]
  go_ret
  exact ⟨rfl, fun S => ((((K3.out (fun b => b = D ∨ b = N)).trans K5.out).trans (K6.out _)).trans (K7.out _)).mono (fun b hb z => absurd z (by have := HD.out; have := HGD.out; have := HL2.out; have := HL3.out; omega))⟩

set_option maxRecDepth 100000 in
set_option maxHeartbeats 4000000 in
theorem news_mid_flow (hl : 1048576 < l ∧ l ≤ 1099511627776) (hb : ¬ 1 ≤ f) : Calls Try.prog 3 #[.int .u64 (l : Int), .int .u64 (f : Int), .int .u64 (t : Int)] w fun e w' => e = .returned (.bool true) ∧ ∀ S, Keeps S w w' := by
  have q1 : (1 : Int) ≤ (l : Int) := by omega
  have q2 : ¬ (l : Int) ≤ 1048576 := by omega
  have q0 : ¬ (1099511627776 : Int) < (l : Int) := by omega
  have r1 : ¬ (1 : Int) ≤ (f : Int) := by omega
  have HN := Lib.hid (gag.new_err l w (by omega))
  have HB := fun w => Lib.hid (newb_err f t w (by unfold MayB; omega))
  have HW := fun w => Lib.hid (awake_ w)
  have hn1 := br_nil
  have hn2 := gg_nil
  have hp1 := br_ptr
  have hp2 := gg_ptr
  clear hl hb
  go_enter Try.func3, Try.ntmps3
  go_wp2_with fail
  refine HN.out.mono ?_
  rintro e w1 ⟨rfl, rfl⟩
  have K1 : Hid (∀ S, Keeps S w w) := Lib.hid (fun S => Keeps.refl S w)
  go_wp2_with fail
  refine (HB w).out.mono ?_
  rintro e w2 ⟨rfl, rfl⟩
  go_wp2_with fail
  refine (HW w).out.mono ?_
  rintro e w3 ⟨rfl, k3⟩
  have K3 : Hid (∀ S, Keeps S w w3) := Lib.hid k3
  clear k3
  go_wp2
  try rw [Exit.noGoto_ret]
  go_ret
  exact ⟨rfl, fun S => (K1.out S).trans (K3.out S)⟩

set_option maxRecDepth 100000 in
set_option maxHeartbeats 4000000 in
theorem news_mid_fhigh (hl : 1048576 < l ∧ l ≤ 1099511627776) (hb : 1048576 < f) : Calls Try.prog 3 #[.int .u64 (l : Int), .int .u64 (f : Int), .int .u64 (t : Int)] w fun e w' => e = .returned (.bool true) ∧ ∀ S, Keeps S w w' := by
  have q1 : (1 : Int) ≤ (l : Int) := by omega
  have q2 : ¬ (l : Int) ≤ 1048576 := by omega
  have q0 : ¬ (1099511627776 : Int) < (l : Int) := by omega
  have r1 : (1 : Int) ≤ (f : Int) := by omega
  have r2 : ¬ (f : Int) ≤ 1048576 := by omega
  have HN := Lib.hid (gag.new_err l w (by omega))
  have HB := fun w => Lib.hid (newb_err f t w (by unfold MayB; omega))
  have HW := fun w => Lib.hid (awake_ w)
  have hn1 := br_nil
  have hn2 := gg_nil
  have hp1 := br_ptr
  have hp2 := gg_ptr
  clear hl hb
  go_enter Try.func3, Try.ntmps3
  go_wp2_with fail
  refine HN.out.mono ?_
  rintro e w1 ⟨rfl, rfl⟩
  have K1 : Hid (∀ S, Keeps S w w) := Lib.hid (fun S => Keeps.refl S w)
  go_wp2_with fail
  refine (HB w).out.mono ?_
  rintro e w2 ⟨rfl, rfl⟩
  go_wp2_with fail
  refine (HW w).out.mono ?_
  rintro e w3 ⟨rfl, k3⟩
  have K3 : Hid (∀ S, Keeps S w w3) := Lib.hid k3
  clear k3
  go_wp2
  try rw [Exit.noGoto_ret]
  go_ret
  exact ⟨rfl, fun S => (K1.out S).trans (K3.out S)⟩

set_option maxRecDepth 100000 in
set_option maxHeartbeats 4000000 in
theorem news_mid_tlow (hl : 1048576 < l ∧ l ≤ 1099511627776) (hb : 1 ≤ f ∧ f ≤ 1048576 ∧ ¬ 1 ≤ t) : Calls Try.prog 3 #[.int .u64 (l : Int), .int .u64 (f : Int), .int .u64 (t : Int)] w fun e w' => e = .returned (.bool true) ∧ ∀ S, Keeps S w w' := by
  have q1 : (1 : Int) ≤ (l : Int) := by omega
  have q2 : ¬ (l : Int) ≤ 1048576 := by omega
  have q0 : ¬ (1099511627776 : Int) < (l : Int) := by omega
  have r1 : (1 : Int) ≤ (f : Int) := by omega
  have r2 : (f : Int) ≤ 1048576 := by omega
  have r3 : ¬ (1 : Int) ≤ (t : Int) := by omega
  have HN := Lib.hid (gag.new_err l w (by omega))
  have HB := fun w => Lib.hid (newb_err f t w (by unfold MayB; omega))
  have HW := fun w => Lib.hid (awake_ w)
  have hn1 := br_nil
  have hn2 := gg_nil
  have hp1 := br_ptr
  have hp2 := gg_ptr
  clear hl hb
  go_enter Try.func3, Try.ntmps3
  go_wp2_with fail
  refine HN.out.mono ?_
  rintro e w1 ⟨rfl, rfl⟩
  have K1 : Hid (∀ S, Keeps S w w) := Lib.hid (fun S => Keeps.refl S w)
  go_wp2_with fail
  refine (HB w).out.mono ?_
  rintro e w2 ⟨rfl, rfl⟩
  go_wp2_with fail
  refine (HW w).out.mono ?_
  rintro e w3 ⟨rfl, k3⟩
  have K3 : Hid (∀ S, Keeps S w w3) := Lib.hid k3
  clear k3
  go_wp2
  try rw [Exit.noGoto_ret]
  go_ret
  exact ⟨rfl, fun S => (K1.out S).trans (K3.out S)⟩

set_option maxRecDepth 100000 in
set_option maxHeartbeats 4000000 in
theorem news_mid_thigh (hl : 1048576 < l ∧ l ≤ 1099511627776) (hb : 1 ≤ f ∧ f ≤ 1048576 ∧ 1099511627776 < t) : Calls Try.prog 3 #[.int .u64 (l : Int), .int .u64 (f : Int), .int .u64 (t : Int)] w fun e w' => e = .returned (.bool true) ∧ ∀ S, Keeps S w w' := by
  have q1 : (1 : Int) ≤ (l : Int) := by omega
  have q2 : ¬ (l : Int) ≤ 1048576 := by omega
  have q0 : ¬ (1099511627776 : Int) < (l : Int) := by omega
  have r1 : (1 : Int) ≤ (f : Int) := by omega
  have r2 : (f : Int) ≤ 1048576 := by omega
  have r3 : (1 : Int) ≤ (t : Int) := by omega
  have r4 : ¬ (t : Int) ≤ 1099511627776 := by omega
  have HN := Lib.hid (gag.new_err l w (by omega))
  have HB := fun w => Lib.hid (newb_err f t w (by unfold MayB; omega))
  have HW := fun w => Lib.hid (awake_ w)
  have hn1 := br_nil
  have hn2 := gg_nil
  have hp1 := br_ptr
  have hp2 := gg_ptr
  clear hl hb
  go_enter Try.func3, Try.ntmps3
  go_wp2_with fail
  refine HN.out.mono ?_
  rintro e w1 ⟨rfl, rfl⟩
  have K1 : Hid (∀ S, Keeps S w w) := Lib.hid (fun S => Keeps.refl S w)
  go_wp2_with fail
  refine (HB w).out.mono ?_
  rintro e w2 ⟨rfl, rfl⟩
  go_wp2_with fail
  refine (HW w).out.mono ?_
  rintro e w3 ⟨rfl, k3⟩
  have K3 : Hid (∀ S, Keeps S w w3) := Lib.hid k3
  clear k3
  go_wp2
  try rw [Exit.noGoto_ret]
  go_ret
  exact ⟨rfl, fun S => (K1.out S).trans (K3.out S)⟩

set_option maxRecDepth 100000 in
set_option maxHeartbeats 4000000 in
theorem news_mid_ok (hl : 1048576 < l ∧ l ≤ 1099511627776) (hb : MayB f t) : Calls Try.prog 3 #[.int .u64 (l : Int), .int .u64 (f : Int), .int .u64 (t : Int)] w fun e w' => e = .returned (.bool true) ∧ ∀ S, Keeps S w w' := by
  have q1 : (1 : Int) ≤ (l : Int) := by omega
  have q2 : ¬ (l : Int) ≤ 1048576 := by omega
  have q0 : ¬ (1099511627776 : Int) < (l : Int) := by omega
  have r1 : (1 : Int) ≤ (f : Int) := by unfold MayB at hb; omega
  have r2 : (f : Int) ≤ 1048576 := by unfold MayB at hb; omega
  have r3 : (1 : Int) ≤ (t : Int) := by unfold MayB at hb; omega
  have r4 : (t : Int) ≤ 1099511627776 := by unfold MayB at hb; omega
  have HN := Lib.hid (gag.new_err l w (by omega))
  have HB := fun w => Lib.hid (newb_ok f t w hb)
  have HW := fun w => Lib.hid (awake_ w)
  have HLL := Lib.hid hl
  have hn1 := br_nil
  have hn2 := gg_nil
  have hp1 := br_ptr
  have hp2 := gg_ptr
  clear hl hb
  go_enter Try.func3, Try.ntmps3
  go_wp2_with fail
  refine HN.out.mono ?_
  rintro e w1 ⟨rfl, rfl⟩
  have K1 : Hid (∀ S, Keeps S w w) := Lib.hid (fun S => Keeps.refl S w)
  go_wp2_with fail
  refine (HB w).out.mono ?_
  rintro e w2 ⟨rfl, d2, k2⟩
  have HD : Hid (w.heap.size ≤ w.heap.size) := Lib.hid ((K1.out (fun _ => False)).size)
  have K2 : Hid (∀ S, Keeps S w w2) := Lib.hid (fun S => (K1.out S).trans (k2 S))
  have D2 := Lib.hid d2
  have HNN := Lib.hid (new_notes w2)
  clear d2 k2
  generalize hgd : w.heap.size = D at *
  have HGD := Lib.hid hgd
  clear hgd
  go_wp2_with fail
  refine HNN.out.mono ?_
  rintro e w3 ⟨rfl, n3, k3⟩
  have K3 : Hid (∀ S, Keeps S w w3) := Lib.hid (fun S => (K2.out S).trans (k3 S))
  have HL2 := Lib.hid (show D < w2.heap.size from D2.out.lt)
  have HL3 := Lib.hid (show w.heap.size ≤ w2.heap.size from (K2.out (fun _ => False)).size)
  have hz3 := n3.above
  have s3 : St w3 D f t w2.heap.size 0 (.iface 31 (.pointer (some ⟨w2.heap.size, 0, none⟩))) [] (· = w2.heap.size) := ⟨D2.out.keeps (k3 (fun _ => False)) (fun z => z), .inr ⟨rfl, n3⟩, fun z => by have := HL2.out; omega⟩
  have hzz : ∀ x, x = w2.heap.size → x < w3.heap.size := fun x hx => (hz3 x hx).2
  clear n3 k3 HNN hz3
  generalize w2.heap.size = N at *
  have hA := ask_closed D f t N 0 0 0 l _ [] _ w3 s3 (by decide) (by have := HLL.out; omega) (by unfold Wd; omega) rfl
  have HA := Lib.hid hA
  have S3 := Lib.hid s3
  clear hA s3 hzz
  go_wp2_with fail
  refine HA.out.mono ?_
  rintro e w4 ⟨rfl, l4⟩
  have hT := tell_same D f t N 0 0 0 l _ _ _ w4 true (l4.st S3.out) (by decide) (by have := HLL.out; omega) (by unfold Wd; omega) (by omega) rfl
  have HT := Lib.hid hT
  have L4 := Lib.hid l4
  clear hT l4 HA
  go_wp2_with fail
  refine HT.out.mono ?_
  rintro e w5 ⟨rfl, l5⟩
  have l35 := L4.out.trans l5
  have n5 := l35.gate
  have kk := l35.keep
  have HM := Lib.hid (marks_any N w5 _ _ (by rcases n5 with z | z; cases z; exact z.2) (by decide))
  have K5 := Lib.hid kk
  clear l35 n5 kk l5 HT
  go_wp2_with fail
  refine HM.out.mono ?_
  rintro e w6 ⟨A', c', rfl, -, k6⟩
  have K6 : Hid (∀ S, Keeps S w5 w6) := Lib.hid k6
  clear k6 HM
  go_wp2_with fail
  refine (HW w6).out.mono ?_
  rintro e w7 ⟨rfl, k7⟩
  have K7 : Hid (∀ S, Keeps S w6 w7) := Lib.hid k7
  clear k7
  go_wp2
  try rw [Exit.noGoto_ret]
  go_ret
  exact ⟨rfl, fun S => ((((K3.out (fun b => b = D ∨ b = N)).trans K5.out).trans (K6.out _)).trans (K7.out _)).mono (fun b hb z => absurd z (by have := HD.out; have := HGD.out; have := HL2.out; have := HL3.out; omega))⟩

set_option maxRecDepth 100000 in
set_option maxHeartbeats 4000000 in
theorem news_high_flow (hl : 1099511627776 < l) (hb : ¬ 1 ≤ f) : Calls Try.prog 3 #[.int .u64 (l : Int), .int .u64 (f : Int), .int .u64 (t : Int)] w fun e w' => e = .returned (.bool true) ∧ ∀ S, Keeps S w w' := by
  have q1 : (1 : Int) ≤ (l : Int) := by omega
  have q2 : ¬ (l : Int) ≤ 1048576 := by omega
  have q0 : (1099511627776 : Int) < (l : Int) := by omega
  have r1 : ¬ (1 : Int) ≤ (f : Int) := by omega
  have HN := Lib.hid (gag.new_err l w (by omega))
  have HB := fun w => Lib.hid (newb_err f t w (by unfold MayB; omega))
  have HW := fun w => Lib.hid (awake_ w)
  have hn1 := br_nil
  have hn2 := gg_nil
  have hp1 := br_ptr
  have hp2 := gg_ptr
  clear hl hb
  go_enter Try.func3, Try.ntmps3
  go_wp2_with fail
  refine HN.out.mono ?_
  rintro e w1 ⟨rfl, rfl⟩
  have K1 : Hid (∀ S, Keeps S w w) := Lib.hid (fun S => Keeps.refl S w)
  go_wp2_with fail
  refine (HB w).out.mono ?_
  rintro e w2 ⟨rfl, rfl⟩
  go_wp2_with fail
  refine (HW w).out.mono ?_
  rintro e w3 ⟨rfl, k3⟩
  have K3 : Hid (∀ S, Keeps S w w3) := Lib.hid k3
  clear k3
  go_wp2
  try rw [Exit.noGoto_ret]
  go_ret
  exact ⟨rfl, fun S => (K1.out S).trans (K3.out S)⟩

set_option maxRecDepth 100000 in
set_option maxHeartbeats 4000000 in
theorem news_high_fhigh (hl : 1099511627776 < l) (hb : 1048576 < f) : Calls Try.prog 3 #[.int .u64 (l : Int), .int .u64 (f : Int), .int .u64 (t : Int)] w fun e w' => e = .returned (.bool true) ∧ ∀ S, Keeps S w w' := by
  have q1 : (1 : Int) ≤ (l : Int) := by omega
  have q2 : ¬ (l : Int) ≤ 1048576 := by omega
  have q0 : (1099511627776 : Int) < (l : Int) := by omega
  have r1 : (1 : Int) ≤ (f : Int) := by omega
  have r2 : ¬ (f : Int) ≤ 1048576 := by omega
  have HN := Lib.hid (gag.new_err l w (by omega))
  have HB := fun w => Lib.hid (newb_err f t w (by unfold MayB; omega))
  have HW := fun w => Lib.hid (awake_ w)
  have hn1 := br_nil
  have hn2 := gg_nil
  have hp1 := br_ptr
  have hp2 := gg_ptr
  clear hl hb
  go_enter Try.func3, Try.ntmps3
  go_wp2_with fail
  refine HN.out.mono ?_
  rintro e w1 ⟨rfl, rfl⟩
  have K1 : Hid (∀ S, Keeps S w w) := Lib.hid (fun S => Keeps.refl S w)
  go_wp2_with fail
  refine (HB w).out.mono ?_
  rintro e w2 ⟨rfl, rfl⟩
  go_wp2_with fail
  refine (HW w).out.mono ?_
  rintro e w3 ⟨rfl, k3⟩
  have K3 : Hid (∀ S, Keeps S w w3) := Lib.hid k3
  clear k3
  go_wp2
  try rw [Exit.noGoto_ret]
  go_ret
  exact ⟨rfl, fun S => (K1.out S).trans (K3.out S)⟩

set_option maxRecDepth 100000 in
set_option maxHeartbeats 4000000 in
theorem news_high_tlow (hl : 1099511627776 < l) (hb : 1 ≤ f ∧ f ≤ 1048576 ∧ ¬ 1 ≤ t) : Calls Try.prog 3 #[.int .u64 (l : Int), .int .u64 (f : Int), .int .u64 (t : Int)] w fun e w' => e = .returned (.bool true) ∧ ∀ S, Keeps S w w' := by
  have q1 : (1 : Int) ≤ (l : Int) := by omega
  have q2 : ¬ (l : Int) ≤ 1048576 := by omega
  have q0 : (1099511627776 : Int) < (l : Int) := by omega
  have r1 : (1 : Int) ≤ (f : Int) := by omega
  have r2 : (f : Int) ≤ 1048576 := by omega
  have r3 : ¬ (1 : Int) ≤ (t : Int) := by omega
  have HN := Lib.hid (gag.new_err l w (by omega))
  have HB := fun w => Lib.hid (newb_err f t w (by unfold MayB; omega))
  have HW := fun w => Lib.hid (awake_ w)
  have hn1 := br_nil
  have hn2 := gg_nil
  have hp1 := br_ptr
  have hp2 := gg_ptr
  clear hl hb
  go_enter Try.func3, Try.ntmps3
  go_wp2_with fail
  refine HN.out.mono ?_
  rintro e w1 ⟨rfl, rfl⟩
  have K1 : Hid (∀ S, Keeps S w w) := Lib.hid (fun S => Keeps.refl S w)
  go_wp2_with fail
  refine (HB w).out.mono ?_
  rintro e w2 ⟨rfl, rfl⟩
  go_wp2_with fail
  refine (HW w).out.mono ?_
  rintro e w3 ⟨rfl, k3⟩
  have K3 : Hid (∀ S, Keeps S w w3) := Lib.hid k3
  clear k3
  go_wp2
  try rw [Exit.noGoto_ret]
  go_ret
  exact ⟨rfl, fun S => (K1.out S).trans (K3.out S)⟩

set_option maxRecDepth 100000 in
set_option maxHeartbeats 4000000 in
theorem news_high_thigh (hl : 1099511627776 < l) (hb : 1 ≤ f ∧ f ≤ 1048576 ∧ 1099511627776 < t) : Calls Try.prog 3 #[.int .u64 (l : Int), .int .u64 (f : Int), .int .u64 (t : Int)] w fun e w' => e = .returned (.bool true) ∧ ∀ S, Keeps S w w' := by
  have q1 : (1 : Int) ≤ (l : Int) := by omega
  have q2 : ¬ (l : Int) ≤ 1048576 := by omega
  have q0 : (1099511627776 : Int) < (l : Int) := by omega
  have r1 : (1 : Int) ≤ (f : Int) := by omega
  have r2 : (f : Int) ≤ 1048576 := by omega
  have r3 : (1 : Int) ≤ (t : Int) := by omega
  have r4 : ¬ (t : Int) ≤ 1099511627776 := by omega
  have HN := Lib.hid (gag.new_err l w (by omega))
  have HB := fun w => Lib.hid (newb_err f t w (by unfold MayB; omega))
  have HW := fun w => Lib.hid (awake_ w)
  have hn1 := br_nil
  have hn2 := gg_nil
  have hp1 := br_ptr
  have hp2 := gg_ptr
  clear hl hb
  go_enter Try.func3, Try.ntmps3
  go_wp2_with fail
  refine HN.out.mono ?_
  rintro e w1 ⟨rfl, rfl⟩
  have K1 : Hid (∀ S, Keeps S w w) := Lib.hid (fun S => Keeps.refl S w)
  go_wp2_with fail
  refine (HB w).out.mono ?_
  rintro e w2 ⟨rfl, rfl⟩
  go_wp2_with fail
  refine (HW w).out.mono ?_
  rintro e w3 ⟨rfl, k3⟩
  have K3 : Hid (∀ S, Keeps S w w3) := Lib.hid k3
  clear k3
  go_wp2
  try rw [Exit.noGoto_ret]
  go_ret
  exact ⟨rfl, fun S => (K1.out S).trans (K3.out S)⟩

set_option maxRecDepth 100000 in
set_option maxHeartbeats 4000000 in
theorem news_high_ok (hl : 1099511627776 < l) (hb : MayB f t) : Calls Try.prog 3 #[.int .u64 (l : Int), .int .u64 (f : Int), .int .u64 (t : Int)] w fun e w' => e = .returned (.bool true) ∧ ∀ S, Keeps S w w' := by
  have q1 : (1 : Int) ≤ (l : Int) := by omega
  have q2 : ¬ (l : Int) ≤ 1048576 := by omega
  have q0 : (1099511627776 : Int) < (l : Int) := by omega
  have r1 : (1 : Int) ≤ (f : Int) := by unfold MayB at hb; omega
  have r2 : (f : Int) ≤ 1048576 := by unfold MayB at hb; omega
  have r3 : (1 : Int) ≤ (t : Int) := by unfold MayB at hb; omega
  have r4 : (t : Int) ≤ 1099511627776 := by unfold MayB at hb; omega
  have HN := Lib.hid (gag.new_err l w (by omega))
  have HB := fun w => Lib.hid (newb_ok f t w hb)
  have HW := fun w => Lib.hid (awake_ w)
  have HLL := Lib.hid hl
  have hn1 := br_nil
  have hn2 := gg_nil
  have hp1 := br_ptr
  have hp2 := gg_ptr
  clear hl hb
  go_enter Try.func3, Try.ntmps3
  go_wp2_with fail
  refine HN.out.mono ?_
  rintro e w1 ⟨rfl, rfl⟩
  have K1 : Hid (∀ S, Keeps S w w) := Lib.hid (fun S => Keeps.refl S w)
  go_wp2_with fail
  refine (HB w).out.mono ?_
  rintro e w2 ⟨rfl, d2, k2⟩
  have HD : Hid (w.heap.size ≤ w.heap.size) := Lib.hid ((K1.out (fun _ => False)).size)
  have K2 : Hid (∀ S, Keeps S w w2) := Lib.hid (fun S => (K1.out S).trans (k2 S))
  have D2 := Lib.hid d2
  have HNN := Lib.hid (new_notes w2)
  clear d2 k2
  generalize hgd : w.heap.size = D at *
  have HGD := Lib.hid hgd
  clear hgd
  go_wp2_with fail
  refine HNN.out.mono ?_
  rintro e w3 ⟨rfl, n3, k3⟩
  have K3 : Hid (∀ S, Keeps S w w3) := Lib.hid (fun S => (K2.out S).trans (k3 S))
  have HL2 := Lib.hid (show D < w2.heap.size from D2.out.lt)
  have HL3 := Lib.hid (show w.heap.size ≤ w2.heap.size from (K2.out (fun _ => False)).size)
  have hz3 := n3.above
  have s3 : St w3 D f t w2.heap.size 0 (.iface 31 (.pointer (some ⟨w2.heap.size, 0, none⟩))) [] (· = w2.heap.size) := ⟨D2.out.keeps (k3 (fun _ => False)) (fun z => z), .inr ⟨rfl, n3⟩, fun z => by have := HL2.out; omega⟩
  have hzz : ∀ x, x = w2.heap.size → x < w3.heap.size := fun x hx => (hz3 x hx).2
  clear n3 k3 HNN hz3
  generalize w2.heap.size = N at *
  have hA := ask_late D f t N l _ [] _ w3 0 s3 hzz (by have := HLL.out; omega)
  have HA := Lib.hid hA
  have S3 := Lib.hid s3
  have HZZ := Lib.hid hzz
  clear hA s3 hzz
  go_wp2_with fail
  refine HA.out.mono ?_
  rintro e w4 ⟨rfl, l4⟩
  have hT := tell_late D f t N l _ _ _ w4 0 true (l4.st S3.out) (fun x hx => by rcases hx with hx | hx; exact Nat.lt_of_lt_of_le (HZZ.out x hx) l4.keep.size; exact hx.2) (by have := HLL.out; omega)
  have HT := Lib.hid hT
  have L4 := Lib.hid l4
  clear hT l4 HA
  go_wp2_with fail
  refine HT.out.mono ?_
  rintro e w5 ⟨rfl, l5⟩
  have l35 := L4.out.trans l5
  have n5 := l35.gate
  have kk := l35.keep
  have HM := Lib.hid (marks_none N w5 _ (by rcases n5 with z | z; cases z; exact z.2))
  have K5 := Lib.hid kk
  clear l35 n5 kk l5 HT
  go_wp2_with fail
  refine HM.out.mono ?_
  rintro e w6 ⟨rfl, rfl⟩
  clear HM
  go_wp2_with fail
  refine (HW w5).out.mono ?_
  rintro e w7 ⟨rfl, k7⟩
  have K7 : Hid (∀ S, Keeps S w5 w7) := Lib.hid k7
  clear k7
  go_wp2
  try rw [Exit.noGoto_ret]
  go_ret
  exact ⟨rfl, fun S => (((K3.out (fun b => b = D ∨ b = N)).trans K5.out).trans (K7.out _)).mono (fun b hb z => absurd z (by have := HD.out; have := HGD.out; have := HL2.out; have := HL3.out; omega))⟩

theorem news_ : Calls Try.prog 3 #[.int .u64 (l : Int), .int .u64 (f : Int), .int .u64 (t : Int)] w fun e w' => e = .returned (.bool true) ∧ ∀ S, Keeps S w w' := by
  have hb : (¬ 1 ≤ f) ∨ (1048576 < f) ∨ (1 ≤ f ∧ f ≤ 1048576 ∧ ¬ 1 ≤ t) ∨ (1 ≤ f ∧ f ≤ 1048576 ∧ 1099511627776 < t) ∨ MayB f t := by unfold MayB; omega
  have hl : (¬ 1 ≤ l) ∨ (1 ≤ l ∧ l ≤ 1048576) ∨ (1048576 < l ∧ l ≤ 1099511627776) ∨ (1099511627776 < l) := by omega
  rcases hl with hl | hl | hl | hl
  · rcases hb with hb | hb | hb | hb | hb
    · exact news_low_flow l f t w hl hb
    · exact news_low_fhigh l f t w hl hb
    · exact news_low_tlow l f t w hl hb
    · exact news_low_thigh l f t w hl hb
    · exact news_low_ok l f t w hl hb
  · rcases hb with hb | hb | hb | hb | hb
    · exact news_ok_flow l f t w hl hb
    · exact news_ok_fhigh l f t w hl hb
    · exact news_ok_tlow l f t w hl hb
    · exact news_ok_thigh l f t w hl hb
    · exact news_ok_ok l f t w hl hb
  · rcases hb with hb | hb | hb | hb | hb
    · exact news_mid_flow l f t w hl hb
    · exact news_mid_fhigh l f t w hl hb
    · exact news_mid_tlow l f t w hl hb
    · exact news_mid_thigh l f t w hl hb
    · exact news_mid_ok l f t w hl hb
  · rcases hb with hb | hb | hb | hb | hb
    · exact news_high_flow l f t w hl hb
    · exact news_high_fhigh l f t w hl hb
    · exact news_high_tlow l f t w hl hb
    · exact news_high_thigh l f t w hl hb
    · exact news_high_ok l f t w hl hb

end
end Go.Proofs.Ytadnkidbglhdlaa.ga
