/-
  meter: Take, Level, State, Bucket, New, under a gate of notes or none.
-/
import Derived.Test.YtgenblefbddilaaMt
set_option linter.unusedVariables false
namespace Go.Proofs.Ytgenblefbddilaa.mt
open Go.RowKit Go.Proofs.Ytgenblefbddilaa.oc Go.Proofs.Ytgenblefbddilaa.mz Go.Proofs.Ytgenblefbddilaa.at_ Go.Proofs.Ytgenblefbddilaa.gt Go.Proofs.Ytgenblefbddilaa.gw Go.Proofs.Ytgenblefbddilaa.bk Go.Proofs.Ytgenblefbddilaa.bp
section
variable (D n d b N s now k : Nat) (gv : Value) (ms : List (Nat × Nat)) (F : Nat → Prop) (w : World)
set_option maxRecDepth 100000 in
set_option maxHeartbeats 1000000 in
theorem take_late (st : St w D n d b N s gv ms F) (hz : ∀ x, F x → x < w.heap.size) (hn : ¬ now ≤ 1099511627776) :
    Calls Try.prog 17 #[.pointer (some ⟨D, 0, none⟩), gv, .int .u64 (now : Int), .int .u64 (k : Int)] w fun e w' => e = .returned (.tuple #[.bool false, .int .i64 5]) ∧ Left D n d b N s gv ms F w w' := by
  have HW := Lib.hid (wrong_late D n d b s now w st.mt hn)
  have L0 := Lib.hid (st.here hz)
  clear st hz hn
  go_enter Try.func17, Try.ntmps17
  go_wp2_with fail
  refine HW.out.mono ?_
  rintro e w' ⟨rfl, rfl⟩
  go_wp2
  try rw [Exit.noGoto_ret]
  go_ret2
  exact ⟨rfl, L0.out⟩
set_option maxRecDepth 100000 in
set_option maxHeartbeats 2000000 in
theorem take_no (st : St w D n d b N s gv ms F) (hN : N ≤ w.heap.size) (hl : ms.length < 900000) (hn : now ≤ 1099511627776) (hk : k < 18446744073709551616) (hlet : lets n d b s now k = false) :
    Calls Try.prog 17 #[.pointer (some ⟨D, 0, none⟩), gv, .int .u64 (now : Int), .int .u64 (k : Int)] w fun e w' => e = .returned (.tuple #[.bool false, .int .i64 0]) ∧ Left D n d b N s gv (ms ++ [(1, 0)]) F w w' := by
  have HW := Lib.hid (wrong_ok' D n d b s now w st.mt hn)
  have HL := Lib.hid (load_ D n d b N s gv ms F w st (by omega))
  have HT := fun w => Lib.hid (take_ok w n d b s now k (by simp [err, st.mt.may, hn]) st.mt.sm hk)
  rw [hlet] at HT
  unfold bv at HT
  have S0 := Lib.hid st
  have HN := Lib.hid hN
  clear st hl hn hk hlet hN
  go_enter Try.func17, Try.ntmps17
  go_wp2_with fail
  refine HW.out.mono ?_
  rintro e w' ⟨rfl, rfl⟩
  go_wp2_with fail
  refine wp_loop_rounds 1 ?_
  rw [rounds_succ]
  go_wp2_with fail
  refine HL.out.mono ?_
  rintro e w1 ⟨rfl, l1⟩
  have x1 := l1.mt.cell1
  have x2 := l1.mt.cell2
  have x3 := l1.mt.cell3
  have L1 := Lib.hid l1
  clear l1
  go_wp2_with fail
  refine (HT w1).out.mono ?_
  rintro e w2 ⟨rfl, k2⟩
  have L2 := Lib.hid (L1.out.more S0.out k2 HN.out)
  clear x1 x2 x3 k2
  go_wp2
  try rw [Exit.noGoto_ret]
  go_ret2
  exact ⟨rfl, L2.out⟩
set_option maxRecDepth 100000 in
set_option maxHeartbeats 2000000 in
theorem take_yes (st : St w D n d b N s gv ms F) (hN : N ≤ w.heap.size) (hl : ms.length < 900000) (hn : now ≤ 1099511627776) (hk : k < 18446744073709551616) (hlet : lets n d b s now k = true) (ht : takeOf n d b s now k < 18446744073709551616) :
    Calls Try.prog 17 #[.pointer (some ⟨D, 0, none⟩), gv, .int .u64 (now : Int), .int .u64 (k : Int)] w fun e w' => e = .returned (.tuple #[.bool true, .int .i64 0]) ∧ Left D n d b N (takeOf n d b s now k) gv (ms ++ [(1, 0)] ++ [(5, 0)]) F w w' := by
  have HW := Lib.hid (wrong_ok' D n d b s now w st.mt hn)
  have HL := Lib.hid (load_ D n d b N s gv ms F w st (by omega))
  have HT := fun w => Lib.hid (take_ok w n d b s now k (by simp [err, st.mt.may, hn]) st.mt.sm hk)
  rw [hlet] at HT
  unfold bv at HT
  have S0 := Lib.hid st
  have HN := Lib.hid hN
  have HB := Lib.hid hl
  clear st hl hn hk hlet hN
  generalize takeOf n d b s now k = v at *
  have HV := Lib.hid ht
  clear ht
  go_enter Try.func17, Try.ntmps17
  go_wp2_with fail
  refine HW.out.mono ?_
  rintro e w' ⟨rfl, rfl⟩
  go_wp2_with fail
  refine wp_loop_rounds 1 ?_
  rw [rounds_succ]
  go_wp2_with fail
  refine HL.out.mono ?_
  rintro e w1 ⟨rfl, l1⟩
  have x1 := l1.mt.cell1
  have x2 := l1.mt.cell2
  have x3 := l1.mt.cell3
  have L1 := Lib.hid l1
  clear l1
  go_wp2_with fail
  refine (HT w1).out.mono ?_
  rintro e w2 ⟨rfl, k2⟩
  have l2 := L1.out.more S0.out k2 HN.out
  have HS := Lib.hid (swap_ D n d b N s gv _ _ w2 v (l2.st S0.out) (by have := HB.out; simp; omega) HV.out)
  have L2 := Lib.hid l2
  clear x1 x2 x3 k2 l2
  go_wp2_with fail
  refine HS.out.mono ?_
  rintro e w3 ⟨rfl, l3⟩
  have L3 := Lib.hid (L2.out.trans l3)
  clear l3
  go_wp2
  try rw [Exit.noGoto_ret]
  go_ret2
  exact ⟨rfl, L3.out⟩
set_option maxRecDepth 100000 in
set_option maxHeartbeats 1000000 in
theorem level_late (st : St w D n d b N s gv ms F) (hz : ∀ x, F x → x < w.heap.size) (hn : ¬ now ≤ 1099511627776) :
    Calls Try.prog 18 #[.pointer (some ⟨D, 0, none⟩), gv, .int .u64 (now : Int)] w fun e w' => e = .returned (.tuple #[.int .u64 0, .int .i64 5]) ∧ Left D n d b N s gv ms F w w' := by
  have HW := Lib.hid (wrong_late D n d b s now w st.mt hn)
  have L0 := Lib.hid (st.here hz)
  clear st hz hn
  go_enter Try.func18, Try.ntmps18
  go_wp2_with fail
  refine HW.out.mono ?_
  rintro e w' ⟨rfl, rfl⟩
  go_wp2
  try rw [Exit.noGoto_ret]
  go_ret2
  exact ⟨rfl, L0.out⟩
set_option maxRecDepth 100000 in
set_option maxHeartbeats 4000000 in
theorem level_is (st : St w D n d b N s gv ms F) (hN : N ≤ w.heap.size) (hl : ms.length < 900000) (hn : now ≤ 1099511627776) :
    Calls Try.prog 18 #[.pointer (some ⟨D, 0, none⟩), gv, .int .u64 (now : Int)] w fun e w' => e = .returned (.tuple #[.int .u64 ((level n d b s now : Nat) : Int), .int .i64 0]) ∧ Left D n d b N s gv (ms ++ [(1, 0)]) F w w' := by
  have HW := Lib.hid (wrong_ok' D n d b s now w st.mt hn)
  have HL := Lib.hid (load_ D n d b N s gv ms F w.drew st.drew (by omega))
  have HT := fun w => Lib.hid (level_ok w n d b s now (by simp [err, st.mt.may, hn]) st.mt.sm)
  unfold bv at HT
  have S0 := Lib.hid st
  have HN := Lib.hid hN
  have x1 := st.mt.cell1
  have x2 := st.mt.cell2
  have x3 := st.mt.cell3
  clear st hl hn hN
  generalize level n d b s now = v at *
  go_enter Try.func18, Try.ntmps18
  go_wp2_with fail
  refine HW.out.mono ?_
  rintro e w' ⟨rfl, rfl⟩
  go_wp2_with fail
  go_region_held3 (fun w' => w'.cell? ⟨D, 1, none⟩ = some (.int .u64 (n : Int)) ∧ w'.cell? ⟨D, 2, none⟩ = some (.int .u64 (d : Int)) ∧ w'.cell? ⟨D, 3, none⟩ = some (.int .u64 (b : Int)))
    (first | exact ⟨z1, z2, z3⟩ | exact ⟨y1, y2, y3⟩ | exact ⟨x1, x2, x3⟩)
    ((first
      | (go_at_call 30; refine HL.out.mono ?_; rintro e w1 ⟨rfl, l1⟩; have l2 := Left.of_drew l1; have y1 := l2.mt.cell1; have y2 := l2.mt.cell2; have y3 := l2.mt.cell3; have L1 := Lib.hid l2; clear l1 l2)
      | (go_at_call 33; refine (HT _).out.mono ?_; rintro e w2 ⟨rfl, k2⟩; have l2 := L1.out.more S0.out k2 HN.out; have z1 := l2.mt.cell1; have z2 := l2.mt.cell2; have z3 := l2.mt.cell3; have L2 := Lib.hid l2; clear k2 l2)))
  all_goals
    go_wp2
    try rw [Exit.noGoto_ret]
    go_ret2
    exact ⟨rfl, L2.out⟩
set_option maxRecDepth 100000 in
set_option maxHeartbeats 1000000 in
theorem state_ (st : St w D n d b N s gv ms F) (hl : ms.length < 900000) :
    Calls Try.prog 19 #[.pointer (some ⟨D, 0, none⟩), gv] w fun e w' => e = .returned (.tuple #[.int .u64 (s : Int), .int .i64 0]) ∧ Left D n d b N s gv (ms ++ [(1, 0)]) F w w' := by
  have HW := Lib.hid (none_ D n d b s w st.mt)
  have HL := Lib.hid (load_ D n d b N s gv ms F w st (by omega))
  clear st hl
  go_enter Try.func19, Try.ntmps19
  go_wp2_with fail
  refine HW.out.mono ?_
  rintro e w' ⟨rfl, rfl⟩
  go_wp2_with fail
  refine HL.out.mono ?_
  rintro e w1 ⟨rfl, l1⟩
  have L1 := Lib.hid l1
  clear l1
  go_wp2
  try rw [Exit.noGoto_ret]
  go_ret2
  exact ⟨rfl, L1.out⟩
end
theorem stored3 {w : World} {R : Nat} {ty : TypeId} {a0 a1 a2 u0 u1 u2 : Value} (bl : Blk w R ty [a0, a1, a2]) :
    (((w.setCell ⟨R, 0, none⟩ u0).setCell ⟨R, 1, none⟩ u1).setCell ⟨R, 2, none⟩ u2).cell? ⟨R, 0, none⟩ = some u0 ∧ (((w.setCell ⟨R, 0, none⟩ u0).setCell ⟨R, 1, none⟩ u1).setCell ⟨R, 2, none⟩ u2).cell? ⟨R, 1, none⟩ = some u1 ∧ (((w.setCell ⟨R, 0, none⟩ u0).setCell ⟨R, 1, none⟩ u1).setCell ⟨R, 2, none⟩ u2).cell? ⟨R, 2, none⟩ = some u2 ∧ Keeps (· = R) w (((w.setCell ⟨R, 0, none⟩ u0).setCell ⟨R, 1, none⟩ u1).setCell ⟨R, 2, none⟩ u2) := by
  have h := ((bl.put 0 u0).put 1 u1).put 2 u2
  refine ⟨by rw [h.cell]; rfl, by rw [h.cell]; rfl, by rw [h.cell]; rfl, ((Keeps.here u0).trans (Keeps.here u1)).trans (Keeps.here u2)⟩
section
variable (n d b : Nat) (w : World)
set_option maxRecDepth 100000 in
set_option maxHeartbeats 1000000 in
theorem bucket_ (D s : Nat) (h : Mt w D n d b s) : Calls Try.prog 8 #[.pointer (some ⟨D, 0, none⟩)] w fun e w' => e = .returned (bv n d b) ∧ ∀ S, Keeps S w w' := by
  have b0 := Blk.new w 24 #[.int .u64 0, .int .u64 0, .int .u64 0]
  have k0 : ∀ S, Keeps S w (w.alloc (.cells #[.int .u64 0, .int .u64 0, .int .u64 0] 24)) := fun S => (Keeps.refl _ w).alloc _
  have h1 := h.keeps (k0 (fun _ => False)) (fun z => z)
  obtain ⟨wa, hwa⟩ : ∃ wa, wa = w.alloc (.cells #[.int .u64 0, .int .u64 0, .int .u64 0] 24) := ⟨_, rfl⟩
  rw [← hwa] at b0 k0 h1
  have HW := Lib.hid (none_ D n d b s wa h1)
  have x1 := h1.cell1
  have x2 := h1.cell2
  have x3 := h1.cell3
  have f0 := b0.frozen 0
  have f1 := b0.frozen 1
  have f2 := b0.frozen 2
  have y0 : wa.cell? ⟨w.heap.size, 0, none⟩ = some (.int .u64 0) := by rw [b0.cell]; rfl
  have y1 : wa.cell? ⟨w.heap.size, 1, none⟩ = some (.int .u64 0) := by rw [b0.cell]; rfl
  have y2 : wa.cell? ⟨w.heap.size, 2, none⟩ = some (.int .u64 0) := by rw [b0.cell]; rfl
  have HA := Lib.hid hwa
  have B0 := Lib.hid b0
  have K0 : Hid (∀ S, Keeps S w wa) := Lib.hid k0
  clear h h1 hwa b0 k0
  go_enter Try.func8, Try.ntmps8
  go_wp2_with fail
  rw [← HA.out]
  go_wp2_with fail
  refine HW.out.mono ?_
  rintro e w' ⟨rfl, rfl⟩
  go_wp2
  obtain ⟨r0, r1, r2, hk⟩ := stored3 (u0 := .int .u64 (n : Int)) (u1 := .int .u64 (d : Int)) (u2 := .int .u64 (b : Int)) B0.out
  refine bodyPost_ret (v := bv n d b) (by simp [results, Try.results8, go_sem, r0, r1, r2, bv]) rfl ?_
  exact ⟨rfl, fun S => by
    have k0 := K0.out S
    exact ⟨Nat.le_trans k0.size hk.size, fun x hx hs => by rw [hk.block x (Nat.lt_of_lt_of_le hx k0.size) (by omega), k0.block x hx hs], k0.same.trans hk.same⟩⟩
set_option maxRecDepth 100000 in
set_option maxHeartbeats 2000000 in
theorem new_ok (hm : May n d b) : Calls Try.prog 5 #[bv n d b] w fun e w' => ∃ D, e = .returned (.tuple #[.pointer (some ⟨D, 0, none⟩), .int .i64 0]) ∧ Mt w' D n d b 0 ∧ w.heap.size ≤ D ∧ ∀ S, Keeps S w w' := by
  have HC := fun w => Lib.hid (check_ w n d b)
  rw [show chk n d b = 0 from by unfold chk; rw [if_pos hm]] at HC
  have HM := Lib.hid hm
  unfold bv at HC ⊢
  clear hm
  go_enter Try.func5, Try.ntmps5
  go_wp2_with fail
  have B0 := Blk.new w 24 #[.int .u64 (n : Int), .int .u64 (d : Int), .int .u64 (b : Int)]
  refine (HC _).out.mono ?_
  rintro e w1 ⟨rfl, k1⟩
  have B1 := Blk.keeps B0 (k1 (fun _ => False)) (fun z => z)
  have K1 : Hid (∀ S, Keeps S w w1) := Lib.hid (fun S => ((Keeps.refl S w).alloc _).trans (k1 S))
  have x0 : w1.cell? ⟨w.heap.size, 0, none⟩ = some (.int .u64 (n : Int)) := by rw [B1.cell]; rfl
  have x1 : w1.cell? ⟨w.heap.size, 1, none⟩ = some (.int .u64 (d : Int)) := by rw [B1.cell]; rfl
  have x2 : w1.cell? ⟨w.heap.size, 2, none⟩ = some (.int .u64 (b : Int)) := by rw [B1.cell]; rfl
  clear k1 B0 B1
  go_wp2
  try rw [Exit.noGoto_ret]
  go_ret2
  exact ⟨_, rfl, ⟨Blk.new w1 _ _, HM.out, by omega⟩, (K1.out (fun _ => False)).size, fun S => (K1.out S).alloc _⟩
set_option maxRecDepth 100000 in
set_option maxHeartbeats 2000000 in
theorem new_err (hm : ¬ May n d b) : Calls Try.prog 5 #[bv n d b] w fun e w' => e = .returned (.tuple #[.pointer none, .int .i64 2]) ∧ ∀ S, Keeps S w w' := by
  have HC := fun w => Lib.hid (check_ w n d b)
  rw [show chk n d b = 2 from by unfold chk; rw [if_neg hm]] at HC
  unfold bv at HC ⊢
  clear hm
  go_enter Try.func5, Try.ntmps5
  go_wp2_with fail
  refine (HC _).out.mono ?_
  rintro e w1 ⟨rfl, k1⟩
  have K1 : Hid (∀ S, Keeps S w w1) := Lib.hid (fun S => ((Keeps.refl S w).alloc _).trans (k1 S))
  clear k1
  go_wp2
  try rw [Exit.noGoto_ret]
  go_ret2
  exact ⟨rfl, K1.out⟩
end
end Go.Proofs.Ytgenblefbddilaa.mt
