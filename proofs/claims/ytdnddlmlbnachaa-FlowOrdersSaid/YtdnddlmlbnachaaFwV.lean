/-
  patchbaylaw17: awake.
-/
import Derived.Test.YtdnddlmlbnachaaFwW
set_option linter.unusedVariables false
set_option linter.unusedSimpArgs false
namespace Go.Proofs.Ytdnddlmlbnachaa.fw
open Go.RowKit Go.Proofs.Ytdnddlmlbnachaa.oc Go.Proofs.Ytdnddlmlbnachaa.mz Go.Proofs.Ytdnddlmlbnachaa.pf Go.Proofs.Ytdnddlmlbnachaa.wh Go.Proofs.Ytdnddlmlbnachaa.qk Go.Proofs.Ytdnddlmlbnachaa.bys
section
variable (w : World)
set_option maxRecDepth 100000 in
set_option maxHeartbeats 4000000 in
theorem awake_ : Calls Try.prog 14 #[] w fun e w' => e = .returned (.bool true) ∧ ∀ S, Keeps S w w' := by
  have HE := fun w => Lib.hid (example_ w)
  have HB := fun w => Lib.hid (bytes_ w exK exK_wf)
  have HK := fun w => Lib.hid (pback_ w exK exK_wf)
  have HC := fun w => Lib.hid (pcmp_ w exK (kback exK) exK_wf exK_wf.back)
  rw [exK_cmp] at HC
  have HL := Lib.hid (kby_len exK_wf)
  generalize hk : kv exK = E at *
  generalize hk2 : kv (kback exK) = F at *
  clear hk hk2
  go_enter Try.func14, Try.ntmps14
  go_wp2_with fail
  refine (HE _).out.mono ?_
  rintro e w1 ⟨rfl, k1⟩
  have K1 := Lib.hid k1
  clear k1
  go_wp2_with fail
  refine (HB _).out.mono ?_
  rintro e w2 ⟨v, rfl, y⟩
  obtain ⟨g, c, rfl, gl, gh⟩ := y.form (by rw [HL.out]; omega)
  rw [HL.out]
  have K2 : Hid (∀ S, Keeps S w w2) := Lib.hid (fun S => (K1.out S).trans (y.keep S))
  have c1 := y.cell (i := 1) (x := 10) rfl
  have c4 := y.cell (i := 4) (x := 1) rfl
  have c18 := y.cell (i := 18) (x := 10) rfl
  have c21 := y.cell (i := 21) (x := 2) rfl
  have c34 := y.cell (i := 34) (x := 17) rfl
  have c35 := y.cell (i := 35) (x := 0) rfl
  have c36 := y.cell (i := 36) (x := 53) rfl
  have c37 := y.cell (i := 37) (x := 4) rfl
  have c38 := y.cell (i := 38) (x := 0) rfl
  clear y gl gh HB
  go_wp2_with fail
  refine (HE _).out.mono ?_
  rintro e w3 ⟨rfl, k3⟩
  have K3 : Hid (∀ S, Keeps S w w3) := Lib.hid (fun S => (K2.out S).trans (k3 S))
  clear k3
  go_wp2_with fail
  refine (HE _).out.mono ?_
  rintro e w4 ⟨rfl, k4⟩
  have K4 : Hid (∀ S, Keeps S w w4) := Lib.hid (fun S => (K3.out S).trans (k4 S))
  clear k4
  go_wp2_with fail
  refine (HK _).out.mono ?_
  rintro e w5 ⟨rfl, k5⟩
  have K5 : Hid (∀ S, Keeps S w w5) := Lib.hid (fun S => (K4.out S).trans (k5 S))
  clear k5
  go_wp2_with fail
  refine (HC _).out.mono ?_
  rintro e w6 ⟨rfl, k6⟩
  have K6 : Hid (∀ S, Keeps S w w6) := Lib.hid (fun S => (K5.out S).trans (k6 S))
  clear k6
  go_wp2
  try rw [Exit.noGoto_ret]
  go_ret
  exact ⟨rfl, K6.out⟩
end
end Go.Proofs.Ytdnddlmlbnachaa.fw
