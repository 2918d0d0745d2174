/-
  OnceKnown's body.
-/
import Derived.Test.YthleddflihidcaaOnWk
import Derived.Test.YthleddflihidcaaOnTm
import Derived.Test.YthleddflihidcaaOnSO
set_option linter.unusedVariables false
namespace Go.Proofs.Ythleddflihidcaa.oc
open Go.RowKit Go.Proofs.Ythleddflihidcaa.oc Go.Proofs.Ythleddflihidcaa.mz Go.Proofs.Ythleddflihidcaa.at_ Go.Proofs.Ythleddflihidcaa.on
set_option maxRecDepth 100000 in
set_option maxHeartbeats 1000000 in
theorem known2 (w : World) : Calls Try.prog 12 #[] w fun e w' => e = .returned (.tuple #[.string ⟨#[110, 111, 116, 32, 116, 111, 108, 100]⟩, .int .i64 2]) ∧ w' = w := by
  go_enter Try.func12, Try.ntmps12
  go_wp2
  try rw [Exit.noGoto_ret]
  go_ret2
  exact ⟨rfl, rfl⟩
/-- an empty Once of ints in a block of its own -/
theorem zero_once (w : World) : ∃ w1, w1 = w.alloc (.cells #[.pointer none, .nilFunc, .int .u64 0, .int .u32 0, .int .i32 0, .int .u32 0, .int .u64 0, .int .u32 0, .int .u64 0, .int .i64 0, .int .i64 0] 52) ∧ (∀ S, Keeps S w w1) ∧ w1.cell? ⟨w.heap.size, 0, none⟩ = some (.pointer none) :=
  ⟨_, rfl, fun S => (Keeps.refl _ w).alloc _, (Blk.new w _ _).cell 0⟩
theorem zero_table (w : World) : ∃ w1, w1 = w.alloc (.cells #[.pointer none, .nilFunc, .slice none 0 0] 57) ∧ (∀ S, Keeps S w w1) ∧ w1.cell? ⟨w.heap.size, 0, none⟩ = some (.pointer none) :=
  ⟨_, rfl, fun S => (Keeps.refl _ w).alloc _, (Blk.new w _ _).cell 0⟩
set_option maxRecDepth 100000 in
set_option maxHeartbeats 8000000 in
theorem walk_onceKnown (w : World) : Calls Try.prog 3 #[] w fun e w' => e = .returned (.bool true) ∧ Below w.heap.size w w' := by
  have hp1 := onI.ptr_nil
  obtain ⟨w1, hw1, k1, c1⟩ := zero_once w
  have HW1 := Lib.hid hw1
  have K1 : Hid (∀ S, Keeps S w w1) := Lib.hid k1
  have C1 := Lib.hid c1
  clear hw1 k1 c1
  go_enter Try.func3, Try.ntmps3
  go_wp2_with fail
  refine (onI.newTable_nil _ _).mono ?_
  rintro e w' ⟨rfl, rfl⟩
  go_wp2_with fail
  refine (onI.newTable_nil _ _).mono ?_
  rintro e w' ⟨rfl, rfl⟩
  go_wp2_with fail
  refine (onI.new_nil _).mono ?_
  rintro e w' ⟨rfl, rfl⟩
  go_wp2_with fail
  refine (onI.oget_nil _).mono ?_
  rintro e w' ⟨rfl, rfl⟩
  go_wp2_with fail
  rw [← HW1.out]
  refine (onI.oget_zero _ _ C1.out).mono ?_
  rintro e w' ⟨rfl, rfl⟩
  go_wp2_with fail
  refine (onI.tget_nil _ _).mono ?_
  rintro e w2 ⟨rfl, k2⟩
  have K2 : Hid (∀ S, Keeps S w1 w2) := Lib.hid k2
  obtain ⟨w3, hw3, k3, c3⟩ := zero_table w2
  have HW3 := Lib.hid hw3
  have K3 : Hid (∀ S, Keeps S w2 w3) := Lib.hid k3
  have C3 := Lib.hid c3
  clear k2 hw3 k3 c3
  go_wp2_with fail
  rw [← HW3.out]
  refine (onI.tget_zero _ _ _ C3.out).mono ?_
  rintro e w4 ⟨rfl, k4⟩
  have K4 : Hid (∀ S, Keeps S w3 w4) := Lib.hid k4
  obtain ⟨w5, hw5, k5, c5⟩ := zero_once w4
  have HW5 := Lib.hid hw5
  have K5 : Hid (∀ S, Keeps S w4 w5) := Lib.hid k5
  have C5 := Lib.hid c5
  clear k4 hw5 k5 c5
  go_wp2_with fail
  refine (onI.made_nil _).mono ?_
  rintro e w' ⟨rfl, rfl⟩
  go_wp2_with fail
  refine (onI.tmade_nil _).mono ?_
  rintro e w' ⟨rfl, rfl⟩
  go_wp2_with fail
  rw [← HW5.out]
  refine (onI.made_zero _ _ C5.out).mono ?_
  rintro e w' ⟨rfl, rfl⟩
  go_wp2_with fail
  refine (onI.newTable_ok 3 _ _ w5 (by omega) (by omega)).mono ?_
  rintro e w6 ⟨X, B, rfl, t6, hB, hBX, k6⟩
  have K6 : Hid (∀ S, Keeps S w5 w6) := Lib.hid k6
  have HBX : Hid (w5.heap.size ≤ B ∧ B < X) := Lib.hid ⟨hB, hBX⟩
  have hg := onI.tget_ok X B 3 2 (sl 0 0 0 4294967296 0 (.int .i64 0) 0 ++ sl 0 0 0 4294967296 0 (.int .i64 0) 0) [] (.int .i64 0) 0 0 w6 (by omega) (by omega) (by omega) t6 rfl
  have HG := Lib.hid hg
  clear k6 t6 hB hBX hg
  go_wp2_with fail
  refine HG.out.mono ?_
  rintro e w7 ⟨rfl, t7, k7⟩
  have T7 := Lib.hid t7
  have K7 := Lib.hid k7
  clear t7 k7
  go_wp2_with fail
  refine (onI.tget_range X B 3 _ _ 3 w7 T7.out (.inr (by omega))).mono ?_
  rintro e w8 ⟨rfl, k8⟩
  have K8 : Hid (∀ S, Keeps S w7 w8) := Lib.hid k8
  have t8 : onI.Tab w8 X B _ 3 _ := ⟨onI.blk_keeps T7.out.head k8, onI.blk_keeps T7.out.row k8⟩
  have T8 := Lib.hid t8
  clear k8 t8
  go_wp2_with fail
  refine (onI.tget_range X B 3 _ _ (-1) w8 T8.out (.inl (by omega))).mono ?_
  rintro e w9 ⟨rfl, k9⟩
  have K9 : Hid (∀ S, Keeps S w8 w9) := Lib.hid k9
  have t9 : onI.Tab w9 X B _ 3 _ := ⟨onI.blk_keeps T8.out.head k9, onI.blk_keeps T8.out.row k9⟩
  have T9 := Lib.hid t9
  clear k9 t9
  go_wp2_with fail
  refine (onI.tmade3 X B _ (.int .i64 0) w9 T9.out).mono ?_
  rintro e wa ⟨ga, ca, rfl, ha, ka⟩
  have KA : Hid (∀ S, Keeps S w9 wa) := Lib.hid ka
  have ta : onI.Tab wa X B _ 3 _ := ⟨onI.blk_keeps T9.out.head ka, onI.blk_keeps T9.out.row ka⟩
  have TA := Lib.hid ta
  clear ka ta ha
  go_wp2_with fail
  refine (onI.tmade3 X B _ (.int .i64 0) wa TA.out).mono ?_
  rintro e wb ⟨gb, cb, rfl, hb, kb⟩
  have KB : Hid (∀ S, Keeps S wa wb) := Lib.hid kb
  clear kb
  go_wp2_with fail
  refine (onS.new_ _ _ wb).mono ?_
  rintro e wc ⟨rfl, oc, kc⟩
  have hget := onS.oget_err wb.heap.size 0 0 (.string ⟨#[]⟩) ⟨#[110, 111, 116, 32, 116, 111, 108, 100]⟩ 2 12 #[] (fun _ => False) (fun _ => True) wc oc (fun z => z) (fun _ z => z.elim) (fun _ _ _ _ => trivial) rfl (onI.enter_of Try.func12 (by kernel_rfl) (by kernel_rfl))
    (fun u ku => (known2 u).mono fun e u' ⟨he, hu⟩ => ⟨he, by rw [hu]; exact Keeps.refl _ _, trivial⟩)
  have HGS := Lib.hid hget
  have KC : Hid (∀ S, Keeps S wb wc) := Lib.hid kc
  clear hget oc kc
  go_wp2_with fail
  refine HGS.out.mono ?_
  rintro e wd ⟨rfl, od, kd, _⟩
  have OD := Lib.hid od
  have KD := Lib.hid kd
  clear od kd
  go_wp2_with fail
  refine (onI.works_any wd).mono ?_
  rintro e we ⟨rfl, ke⟩
  have KE : Hid (∀ S, Keeps S wd we) := Lib.hid ke
  have oe : onS.Once_ we wb.heap.size _ _ := Slot.keeps OD.out (ke (fun _ => False)) (fun z => z)
  have HM := Lib.hid (onS.made_1 wb.heap.size _ 3 1 0 0 3 2 _ we rfl oe)
  clear ke oe
  go_wp2_with fail
  refine HM.out.mono ?_
  rintro e w' ⟨rfl, rfl⟩
  go_wp2
  go_ret
  refine ⟨rfl, ?_⟩
  have k05 : Keeps (fun _ => False) w w5 := ((((K1.out _).trans (K2.out _)).trans (K3.out _)).trans (K4.out _)).trans (K5.out _)
  have k7 : Keeps (fun k => w.heap.size ≤ k) w w7 := ((k05.mono (fun _ _ z => z.elim)).trans (K6.out _)).trans (K7.out.mono (fun x _ e => by have := HBX.out; have := k05.size; omega))
  have kd : Keeps (fun k => w.heap.size ≤ k) w wd := (((((k7.trans (K8.out _)).trans (K9.out _)).trans (KA.out _)).trans (KB.out _)).trans (KC.out _)).trans (KD.out.mono (fun x _ e => by
    have a1 := k7.size
    have a2 := (K8.out (fun _ => False)).size
    have a3 := (K9.out (fun _ => False)).size
    have a4 := (KA.out (fun _ => False)).size
    have a5 := (KB.out (fun _ => False)).size
    rcases e with e | e
    · omega
    · exact e.elim))
  have ke := kd.trans (KE.out _)
  exact ⟨ke.same.os, ke.same.tape, ke.same.output, ke.size, fun k hk => ke.block k hk (by omega)⟩
end Go.Proofs.Ythleddflihidcaa.oc
