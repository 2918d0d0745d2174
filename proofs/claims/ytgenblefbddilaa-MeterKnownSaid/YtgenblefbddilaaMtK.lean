/-
  meter: calls on meters that New did not make; MeterKnown.
-/
import Derived.Test.YtgenblefbddilaaRf13r
import Derived.Test.YtgenblefbddilaaMtE
set_option linter.unusedVariables false
namespace Go.Proofs.Ytgenblefbddilaa.mt
open Go.RowKit Go.Proofs.Ytgenblefbddilaa.oc Go.Proofs.Ytgenblefbddilaa.mz Go.Proofs.Ytgenblefbddilaa.at_ Go.Proofs.Ytgenblefbddilaa.gt Go.Proofs.Ytgenblefbddilaa.gw Go.Proofs.Ytgenblefbddilaa.bk Go.Proofs.Ytgenblefbddilaa.bp Go.Proofs.Ytgenblefbddilaa.rf13
/-- a meter that is none, in whatever comes -/
def Off (w : World) (v : Value) : Prop := ∀ w', (∀ S, Keeps S w w') → Calls Try.prog 21 #[v] w' fun e w'' => e = .returned (.bool true) ∧ w' = w''
theorem Off.keeps {w w1 : World} {v : Value} (h : Off w v) (k : ∀ S, Keeps S w w1) : Off w1 v := fun w' k' => h w' (fun S => (k S).trans (k' S))
set_option maxRecDepth 100000 in
set_option maxHeartbeats 1000000 in
theorem off_nil (w : World) : Off w (.pointer none) := by
  intro w' _
  have hep : ∀ w : World, (binOp .eql 26 (.pointer none) (.pointer none)).run Try.prog w = .ok (.bool true) w := fun w => by kernel_rfl
  go_enter Try.func21, Try.ntmps21
  go_wp2
  go_ret
  exact ⟨rfl, rfl⟩
set_option maxRecDepth 100000 in
set_option maxHeartbeats 1000000 in
theorem off_empty (E : Nat) (w : World) (h : w.cell? ⟨E, 0, none⟩ = some (.pointer none)) : Off w (.pointer (some ⟨E, 0, none⟩)) := by
  intro w' k
  have c0 := Keeps.cell (k (fun _ => False)) h (fun z => z)
  have hne : ∀ (w : World) (a : Addr), (binOp .neq 26 (.pointer none) (.pointer (some a))).run Try.prog w = .ok (.bool true) w := fun w a => by kernel_rfl
  clear h k
  go_enter Try.func21, Try.ntmps21
  go_wp2
  go_ret
  exact ⟨rfl, rfl⟩
section
variable (v : Value) (w : World)
set_option maxRecDepth 100000 in
set_option maxHeartbeats 1000000 in
theorem off_wrong (now : Int) (h : Off w v) : Calls Try.prog 29 #[v, .int .u64 now] w fun e w' => e = .returned (.int .i64 1) ∧ w = w' := by
  have HN := Lib.hid (h w (fun S => Keeps.refl S w))
  clear h
  go_enter Try.func29, Try.ntmps29
  go_wp2_with fail
  refine HN.out.mono ?_
  rintro e w' ⟨rfl, rfl⟩
  go_wp2
  try rw [Exit.noGoto_ret]
  go_ret
  exact ⟨rfl, rfl⟩
set_option maxRecDepth 100000 in
set_option maxHeartbeats 1000000 in
theorem off_take (now k : Int) (h : Off w v) : Calls Try.prog 17 #[v, .nilIface, .int .u64 now, .int .u64 k] w fun e w' => e = .returned (.tuple #[.bool false, .int .i64 1]) ∧ w = w' := by
  have HN := Lib.hid (off_wrong v w now h)
  clear h
  go_enter Try.func17, Try.ntmps17
  go_wp2_with fail
  refine HN.out.mono ?_
  rintro e w' ⟨rfl, rfl⟩
  go_wp2
  try rw [Exit.noGoto_ret]
  go_ret2
  exact ⟨rfl, rfl⟩
set_option maxRecDepth 100000 in
set_option maxHeartbeats 1000000 in
theorem off_level (now : Int) (h : Off w v) : Calls Try.prog 18 #[v, .nilIface, .int .u64 now] w fun e w' => e = .returned (.tuple #[.int .u64 0, .int .i64 1]) ∧ w = w' := by
  have HN := Lib.hid (off_wrong v w now h)
  clear h
  go_enter Try.func18, Try.ntmps18
  go_wp2_with fail
  refine HN.out.mono ?_
  rintro e w' ⟨rfl, rfl⟩
  go_wp2
  try rw [Exit.noGoto_ret]
  go_ret2
  exact ⟨rfl, rfl⟩
set_option maxRecDepth 100000 in
set_option maxHeartbeats 1000000 in
theorem off_state  (h : Off w v) : Calls Try.prog 19 #[v, .nilIface] w fun e w' => e = .returned (.tuple #[.int .u64 0, .int .i64 1]) ∧ w = w' := by
  have HN := Lib.hid (h w (fun S => Keeps.refl S w))
  clear h
  go_enter Try.func19, Try.ntmps19
  go_wp2_with fail
  refine HN.out.mono ?_
  rintro e w' ⟨rfl, rfl⟩
  go_wp2
  try rw [Exit.noGoto_ret]
  go_ret2
  exact ⟨rfl, rfl⟩
set_option maxRecDepth 100000 in
set_option maxHeartbeats 1000000 in
theorem off_bucket (h : Off w v) : Calls Try.prog 8 #[v] w fun e w' => e = .returned (.agg #[.int .u64 0, .int .u64 0, .int .u64 0]) ∧ ∀ S, Keeps S w w' := by
  have b0 := Blk.new w 24 #[.int .u64 0, .int .u64 0, .int .u64 0]
  have k0 : ∀ S, Keeps S w (w.alloc (.cells #[.int .u64 0, .int .u64 0, .int .u64 0] 24)) := fun S => (Keeps.refl _ w).alloc _
  obtain ⟨wa, hwa⟩ : ∃ wa, wa = w.alloc (.cells #[.int .u64 0, .int .u64 0, .int .u64 0] 24) := ⟨_, rfl⟩
  rw [← hwa] at b0 k0
  have HN := Lib.hid (h wa k0)
  have f0 := b0.frozen 0
  have f1 := b0.frozen 1
  have f2 := b0.frozen 2
  have y0 : wa.cell? ⟨w.heap.size, 0, none⟩ = some (.int .u64 0) := by rw [b0.cell]; rfl
  have y1 : wa.cell? ⟨w.heap.size, 1, none⟩ = some (.int .u64 0) := by rw [b0.cell]; rfl
  have y2 : wa.cell? ⟨w.heap.size, 2, none⟩ = some (.int .u64 0) := by rw [b0.cell]; rfl
  have HA := Lib.hid hwa
  have B0 := Lib.hid b0
  have K0 : Hid (∀ S, Keeps S w wa) := Lib.hid k0
  clear h hwa b0 k0
  go_enter Try.func8, Try.ntmps8
  go_wp2_with fail
  rw [← HA.out]
  go_wp2_with fail
  refine HN.out.mono ?_
  rintro e w' ⟨rfl, rfl⟩
  go_wp2
  try rw [Exit.noGoto_ret]
  obtain ⟨r0, r1, r2, hk⟩ := stored3 (u0 := .int .u64 0) (u1 := .int .u64 0) (u2 := .int .u64 0) B0.out
  refine bodyPost_ret (v := .agg #[.int .u64 0, .int .u64 0, .int .u64 0]) (by simp [results, Try.results8, go_sem, r0, r1, r2]) rfl ?_
  exact ⟨rfl, fun S => by
    have k0 := K0.out S
    exact ⟨Nat.le_trans k0.size hk.size, fun x hx hs => by rw [hk.block x (Nat.lt_of_lt_of_le hx k0.size) (by omega), k0.block x hx hs], k0.same.trans hk.same⟩⟩
end
section
variable {D s now k v : Nat} {nowI kI vI : Int} {w : World}
theorem tk_yes (h : Mt w D 1 10 3 s) (hn : (now : Int) = nowI) (hk : (k : Int) = kI) (h1 : now ≤ 1099511627776) (h2 : k < 18446744073709551616) (hl : lets 1 10 3 s now k = true) (hv : takeOf 1 10 3 s now k = v) (hv2 : v < 18446744073709551616) :
    Calls Try.prog 17 #[.pointer (some ⟨D, 0, none⟩), .nilIface, .int .u64 nowI, .int .u64 kI] w fun e w' => e = .returned (.tuple #[.bool true, .int .i64 0]) ∧ Mt w' D 1 10 3 v ∧ Keeps (· = D) w w' := by
  subst hn; subst hk; subst hv
  refine (take_yes D 1 10 3 0 s now k .nilIface [] _ w (st0 h) (by omega) (by simp) h1 h2 hl hv2).mono ?_
  rintro e w' ⟨rfl, l⟩
  exact ⟨rfl, l.mt, keep0 l⟩
theorem tk_no (h : Mt w D 1 10 3 s) (hn : (now : Int) = nowI) (hk : (k : Int) = kI) (h1 : now ≤ 1099511627776) (h2 : k < 18446744073709551616) (hl : lets 1 10 3 s now k = false) :
    Calls Try.prog 17 #[.pointer (some ⟨D, 0, none⟩), .nilIface, .int .u64 nowI, .int .u64 kI] w fun e w' => e = .returned (.tuple #[.bool false, .int .i64 0]) ∧ Mt w' D 1 10 3 s ∧ Keeps (· = D) w w' := by
  subst hn; subst hk
  refine (take_no D 1 10 3 0 s now k .nilIface [] _ w (st0 h) (by omega) (by simp) h1 h2 hl).mono ?_
  rintro e w' ⟨rfl, l⟩
  exact ⟨rfl, l.mt, keep0 l⟩
theorem tk_late (h : Mt w D 1 10 3 s) (hn : (now : Int) = nowI) (hk : (k : Int) = kI) (h1 : ¬ now ≤ 1099511627776) :
    Calls Try.prog 17 #[.pointer (some ⟨D, 0, none⟩), .nilIface, .int .u64 nowI, .int .u64 kI] w fun e w' => e = .returned (.tuple #[.bool false, .int .i64 5]) ∧ Mt w' D 1 10 3 s ∧ Keeps (· = D) w w' := by
  subst hn; subst hk
  refine (mt.take_late D 1 10 3 0 s now k .nilIface [] _ w (st0 h) (fun x z => z.elim) h1).mono ?_
  rintro e w' ⟨rfl, l⟩
  exact ⟨rfl, l.mt, keep0 l⟩
theorem lv_ (h : Mt w D 1 10 3 s) (hn : (now : Int) = nowI) (h1 : now ≤ 1099511627776) (hv : ((level 1 10 3 s now : Nat) : Int) = vI) :
    Calls Try.prog 18 #[.pointer (some ⟨D, 0, none⟩), .nilIface, .int .u64 nowI] w fun e w' => e = .returned (.tuple #[.int .u64 vI, .int .i64 0]) ∧ Mt w' D 1 10 3 s ∧ Keeps (· = D) w w' := by
  subst hn; subst hv
  refine (level_is D 1 10 3 0 s now .nilIface [] _ w (st0 h) (by omega) (by simp) h1).mono ?_
  rintro e w' ⟨rfl, l⟩
  exact ⟨rfl, l.mt, keep0 l⟩
theorem sta_ (h : Mt w D 1 10 3 s) (hv : (s : Int) = vI) :
    Calls Try.prog 19 #[.pointer (some ⟨D, 0, none⟩), .nilIface] w fun e w' => e = .returned (.tuple #[.int .u64 vI, .int .i64 0]) ∧ Mt w' D 1 10 3 s ∧ Keeps (· = D) w w' := by
  subst hv
  refine (state_ D 1 10 3 0 s .nilIface [] _ w (st0 h) (by simp)).mono ?_
  rintro e w' ⟨rfl, l⟩
  exact ⟨rfl, l.mt, keep0 l⟩
end
theorem not_may : ¬ May 0 1 1 := by unfold May; omega
set_option maxRecDepth 100000 in
set_option maxHeartbeats 8000000 in
theorem known_walk (w : World) : Calls Try.prog 4 #[] w fun e w' => e = .returned (.bool true) ∧ Keeps (fun _ => False) w w' := by
  have hbe := bucket_eql 0 0 0
  go_enter Try.func4, Try.ntmps4
  go_wp2_with fail
  obtain ⟨w0, hw0, k0, b0⟩ := enter_blk w #[.pointer none, .int .u64 0, .int .u64 0, .int .u64 0, .int .u64 0] 61
  try rw [← hw0]
  have ON := off_nil w0
  have OE := off_empty w.heap.size w0 (by rw [b0.cell]; rfl)
  have HON := Lib.hid ON
  have HOE := Lib.hid OE
  have K0 : Hid (∀ S, Keeps S w w0) := Lib.hid k0
  clear hw0 k0 b0 ON OE

  refine (off_take _ w0 _ _ HON.out).mono ?_
  rintro e w' ⟨rfl, rfl⟩
  go_wp2_with fail
  refine (off_level _ w0 _ HON.out).mono ?_
  rintro e w' ⟨rfl, rfl⟩
  go_wp2_with fail
  refine (off_state _ w0 HON.out).mono ?_
  rintro e w' ⟨rfl, rfl⟩
  go_wp2_with fail
  refine (off_take _ w0 _ _ HOE.out).mono ?_
  rintro e w' ⟨rfl, rfl⟩
  go_wp2_with fail
  refine (off_state _ w0 HOE.out).mono ?_
  rintro e w' ⟨rfl, rfl⟩
  go_wp2_with fail
  refine (off_bucket _ w0 HON.out).mono ?_
  rintro e w1 ⟨rfl, k1⟩
  have HOE1 := Lib.hid (HOE.out.keeps k1)
  have K1 : Hid (∀ S, Keeps S w w1) := Lib.hid (fun S => (K0.out S).trans (k1 S))
  clear k1
  go_wp2_with fail
  refine (off_bucket _ w1 HOE1.out).mono ?_
  rintro e w2 ⟨rfl, k2⟩
  have K2 : Hid (∀ S, Keeps S w w2) := Lib.hid (fun S => (K1.out S).trans (k2 S))
  have HE := new_err 0 1 1 w2 not_may
  have HM := fun w => new_ok 1 10 3 w may3
  unfold bv at HE HM
  have c0 : ((0 : Nat) : Int) = 0 := rfl
  have c1 : ((1 : Nat) : Int) = 1 := rfl
  have c3 : ((3 : Nat) : Int) = 3 := rfl
  have c10 : ((10 : Nat) : Int) = 10 := rfl
  rw [c0, c1] at HE
  rw [c1, c10, c3] at HM
  have HE := Lib.hid HE
  have HM := fun w => Lib.hid (HM w)
  clear k2 c0 c1 c3 c10 hbe
  go_wp2_with fail
  refine HE.out.mono ?_
  rintro e w3 ⟨rfl, k3⟩
  have K3 : Hid (∀ S, Keeps S w w3) := Lib.hid (fun S => (K2.out S).trans (k3 S))
  clear k3
  go_wp2_with fail
  refine (HM w3).out.mono ?_
  rintro e w4 ⟨D, rfl, m4, hD, k4⟩
  have KD := Lib.hid (show Keeps (· = D) w w4 from (K3.out _).trans (k4 _))
  have HD := Lib.hid (show w.heap.size ≤ D from Nat.le_trans (K3.out (fun _ => False)).size hD)
  have M4 := Lib.hid m4
  clear k4 m4 hD HM HE
  go_wp2_with fail
  refine (tk_yes (s := 0) (now := 0) (k := 2) (v := 20) M4.out rfl rfl (by omega) (by omega) (by decide) (by decide) (by omega)).mono ?_
  rintro e w5 ⟨rfl, m5, k5⟩
  have M5 := Lib.hid m5
  have KD5 := Lib.hid ((KD.out).trans k5)
  clear m5 k5
  go_wp2_with fail
  refine (sta_ (s := 20) (vI := 20) M5.out rfl).mono ?_
  rintro e w6 ⟨rfl, m6, k6⟩
  have M6 := Lib.hid m6
  have KD6 := Lib.hid ((KD5.out).trans k6)
  clear m6 k6
  go_wp2_with fail
  refine (lv_ (s := 20) (now := 0) (vI := 1) M6.out rfl (by omega) (by decide)).mono ?_
  rintro e w7 ⟨rfl, m7, k7⟩
  have M7 := Lib.hid m7
  have KD7 := Lib.hid ((KD6.out).trans k7)
  clear m7 k7
  go_wp2_with fail
  refine (tk_no (s := 20) (now := 0) (k := 2) M7.out rfl rfl (by omega) (by omega) (by decide)).mono ?_
  rintro e w8 ⟨rfl, m8, k8⟩
  have M8 := Lib.hid m8
  have KD8 := Lib.hid ((KD7.out).trans k8)
  clear m8 k8
  go_wp2_with fail
  refine (tk_yes (s := 20) (now := 0) (k := 1) (v := 30) M8.out rfl rfl (by omega) (by omega) (by decide) (by decide) (by omega)).mono ?_
  rintro e w9 ⟨rfl, m9, k9⟩
  have M9 := Lib.hid m9
  have KD9 := Lib.hid ((KD8.out).trans k9)
  clear m9 k9
  go_wp2_with fail
  refine (lv_ (s := 30) (now := 10) (vI := 1) M9.out rfl (by omega) (by decide)).mono ?_
  rintro e w10 ⟨rfl, m10, k10⟩
  have M10 := Lib.hid m10
  have KD10 := Lib.hid ((KD9.out).trans k10)
  clear m10 k10
  go_wp2_with fail
  refine (tk_late (s := 30) (now := 1099511627777) (k := 1) M10.out rfl rfl (by omega)).mono ?_
  rintro e w11 ⟨rfl, m11, k11⟩
  have M11 := Lib.hid m11
  have KD11 := Lib.hid ((KD10.out).trans k11)
  clear m11 k11
  go_wp2_with fail
  refine (tk_yes (s := 30) (now := 10) (k := 0) (v := 30) M11.out rfl rfl (by omega) (by omega) (by decide) (by decide) (by omega)).mono ?_
  rintro e w12 ⟨rfl, m12, k12⟩
  have M12 := Lib.hid m12
  have KD12 := Lib.hid ((KD11.out).trans k12)
  clear m12 k12
  go_wp2_with fail
  refine (sta_ (s := 30) (vI := 30) M12.out rfl).mono ?_
  rintro e w13 ⟨rfl, m13, k13⟩
  have M13 := Lib.hid m13
  have KD13 := Lib.hid ((KD12.out).trans k13)
  clear m13 k13
  go_wp2_with fail
  refine (works_ w13).mono ?_
  rintro e we ⟨rfl, ke⟩
  have KE := Lib.hid (KD13.out.trans (ke _))
  clear ke
  go_wp2
  go_ret
  exact ⟨rfl, KE.out.mono (fun x hx e => by have := HD.out; omega)⟩
end Go.Proofs.Ytgenblefbddilaa.mt
namespace Go.Proofs.Ytgenblefbddilaa.oc
open Go.RowKit Go.Proofs.Ytgenblefbddilaa.oc Go.Proofs.Ytgenblefbddilaa.mz
theorem walk_meterKnown (w : World) : Calls Try.prog 4 #[] w fun e w' => e = .returned (.bool true) ∧ Below w.heap.size w w' :=
  (mt.known_walk w).mono fun e w' ⟨he, k⟩ => ⟨he, k.below⟩
end Go.Proofs.Ytgenblefbddilaa.oc
