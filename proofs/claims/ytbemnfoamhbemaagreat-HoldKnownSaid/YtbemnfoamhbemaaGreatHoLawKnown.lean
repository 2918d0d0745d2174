/-
  HoldKnown's body.
-/
import Derived.Test.YtbemnfoamhbemaaGreatHoK
set_option linter.unusedVariables false
namespace Go.Proofs.YtbemnfoamhbemaaGreat.oc
open Go.RowKit Go.Proofs.YtbemnfoamhbemaaGreat.oc Go.Proofs.YtbemnfoamhbemaaGreat.mz Go.Proofs.YtbemnfoamhbemaaGreat.at_ Go.Proofs.YtbemnfoamhbemaaGreat.gt Go.Proofs.YtbemnfoamhbemaaGreat.gw Go.Proofs.YtbemnfoamhbemaaGreat.ep Go.Proofs.YtbemnfoamhbemaaGreat.ho
set_option maxRecDepth 100000 in
set_option maxHeartbeats 8000000 in
theorem walk_holdKnown (w : World) : Calls Tryz.prog 3 #[] w fun e w' => e = .returned (.bool true) ∧ Below w.heap.size w w' := by
  obtain ⟨w1, hw1, k1, b1⟩ := enter_blk w #[.pointer none, .pointer none, .pointer none, .int .i32 0, .int .u32 0, .slice none 0 0] 41
  have HN := Lib.hid (hoI.none_nil w1)
  have HE := Lib.hid (hoI.none_empty w.heap.size w1 (by rw [b1.cell]; rfl))
  have HW := Lib.hid hw1
  have K1 := Lib.hid k1
  have HNew := Lib.hid (hoS.hnew_ok ⟨#[97]⟩ w1)
  clear hw1 k1 b1
  go_enter Tryz.func3, Tryz.ntmps3
  go_wp2_with fail
  rw [← HW.out]
  refine (hoI.Now_no _ w1 HN.out).mono ?_
  rintro r w' ⟨rfl, rfl⟩
  go_wp2_with fail
  refine (hoI.Enter_no _ 0 _ HN.out).mono ?_
  rintro r w' ⟨rfl, rfl⟩
  go_wp2_with fail
  refine (hoI.Put_no _ 1 _ HN.out).mono ?_
  rintro r w' ⟨rfl, rfl⟩
  go_wp2_with fail
  refine (hoI.Try_no _ 1 1 _ HN.out).mono ?_
  rintro r w' ⟨rfl, rfl⟩
  go_wp2_with fail
  refine (hoI.Free_no _ _ HN.out).mono ?_
  rintro r w' ⟨rfl, rfl⟩
  go_wp2_with fail
  refine (hoI.Now_no _ _ HE.out).mono ?_
  rintro r w' ⟨rfl, rfl⟩
  go_wp2_with fail
  refine (hoI.Put_no _ 1 _ HE.out).mono ?_
  rintro r w' ⟨rfl, rfl⟩
  go_wp2_with fail
  refine (hoI.Old_no _ 1 _ HN.out).mono ?_
  rintro r w' ⟨rfl, rfl⟩
  go_wp2_with fail
  refine (hoI.Old_no _ 1 _ HE.out).mono ?_
  rintro r w' ⟨rfl, rfl⟩
  go_wp2_with fail
  refine (hoI.Leave_no _ 0 _ HN.out).mono ?_
  rintro r w' ⟨rfl, rfl⟩
  go_wp2_with fail
  refine (hoI.Leave_no _ 0 _ HE.out).mono ?_
  rintro r w' ⟨rfl, rfl⟩
  go_wp2_with fail
  refine (hoI.Kept_no _ _ HN.out).mono ?_
  rintro r w' ⟨rfl, rfl⟩
  go_wp2_with fail
  refine (hoI.Kept_no _ _ HE.out).mono ?_
  rintro r w' ⟨rfl, rfl⟩
  go_wp2_with fail
  refine HNew.out.mono ?_
  rintro r w2 ⟨H, E, D, rfl, h2, hl, k2⟩
  have HC2 := Lib.hid (hoS.enter_ok H E D 1 _ _ _ w2 0 [1, 1, 0] h2 (hoS.pn_yes D _ w2 h2.ep (by decide)))
  have HL := Lib.hid hl
  have K2 := Lib.hid (show Keeps (fun _ => False) w w2 from (K1.out _).trans (k2 _))
  clear h2 hl k2
  go_wp2_with fail
  refine HC2.out.mono ?_
  rintro r w3 ⟨rfl, h3, k3⟩
  have HC3 := Lib.hid (hoS.enter_no H E D 1 _ _ _ w3 0 90 (by decide) [1, 1, 0] h3 (hoS.pn_no D _ w3 h3.ep (by decide)))
  have K3 := Lib.hid k3
  clear h3 k3
  go_wp2_with fail
  refine HC3.out.mono ?_
  rintro r w4 ⟨rfl, h4, k4⟩
  have HC4 := Lib.hid (hoS.put_ H E D 1 _ _ w4 2 rfl (by omega) ⟨#[98]⟩ h4)
  have K4 := Lib.hid k4
  clear h4 k4
  go_wp2_with fail
  refine HC4.out.mono ?_
  rintro r w5 ⟨rfl, E5, K, c, r5, hK, k5⟩
  have HC5 := Lib.hid (hoS.hfree_no H E5 D 2 _ _ w5 K c E 1 1 _ [2, 1, 0] r5 (by decide) (by decide) (hoS.mv_yes D _ w5 r5.hd.ep (by decide) (by decide)))
  have K5 := Lib.hid k5
  have HK := Lib.hid hK
  clear r5 k5 hK
  go_wp2_with fail
  refine wp_loop_rounds 4 ?_
  rw [rounds_succ]
  go_wp2_with fail
  refine HC5.out.mono ?_
  rintro r w6 ⟨rfl, r6, k6⟩
  have HC6 := Lib.hid (hoS.hfree_no H E5 D 2 _ _ w6 K c E 1 1 _ [2, 1, 0] r6 (by decide) (by decide) (hoS.mv_no D _ w6 r6.hd.ep (by decide)))
  have K6 := Lib.hid k6
  clear r6 k6
  go_wp2_with fail
  rw [rounds_succ]
  go_wp2_with fail
  refine HC6.out.mono ?_
  rintro r w7 ⟨rfl, r7, k7⟩
  have HC7 := Lib.hid (hoS.hfree_no H E5 D 2 _ _ w7 K c E 1 1 _ [2, 1, 0] r7 (by decide) (by decide) (hoS.mv_no D _ w7 r7.hd.ep (by decide)))
  have K7 := Lib.hid k7
  clear r7 k7
  go_wp2_with fail
  rw [rounds_succ]
  go_wp2_with fail
  refine HC7.out.mono ?_
  rintro r w8 ⟨rfl, r8, k8⟩
  have HC8 := Lib.hid (hoS.leave_ H E5 D 2 _ _ _ w8 0 0 [2, 0, 0] r8.hd (hoS.up_yes D _ w8 r8.hd.ep (by decide)))
  have R8 := Lib.hid r8
  have K8 := Lib.hid k8
  clear r8 k8
  go_wp2_with fail
  rw [rounds_succ]
  go_wp2_with fail
  refine HC8.out.mono ?_
  rintro r w9 ⟨rfl, h9, k9⟩
  have r9 := R8.out.dom k9 h9.ep
  have HC9 := Lib.hid (hoS.leave_ H E5 D 2 _ _ _ w9 0 90 [2, 0, 0] r9.hd (hoS.up_no D _ w9 r9.hd.ep (by decide)))
  have R9 := Lib.hid r9
  have K9 := Lib.hid k9
  clear r9 k9 h9
  go_wp2_with fail
  refine HC9.out.mono ?_
  rintro r wa ⟨rfl, ha, ka⟩
  have ra := R9.out.dom ka ha.ep
  have HCA := Lib.hid (hoS.hfree_yes H E5 D 2 _ _ wa K c E 1 1 _ [3, 0, 0] ra (by decide) (by decide) (hoS.mv_yes D _ wa ra.hd.ep (by decide) (by decide)))
  have KA := Lib.hid ka
  clear ra ka ha
  go_wp2_with fail
  refine HCA.out.mono ?_
  rintro r wb ⟨R, c', rfl, rb, hb, kb⟩
  have HB := Lib.hid hb
  have KB := Lib.hid kb
  clear hb kb
  go_wp2_with fail
  refine (hoS.hnew_arg _ 0 (.inl (by omega)) wb).mono ?_
  rintro r w' ⟨rfl, rfl⟩
  go_wp2_with fail
  refine (hoS.hnew_arg _ 17 (.inr (by omega)) wb).mono ?_
  rintro r w' ⟨rfl, rfl⟩
  go_wp2_with fail
  refine (hoS.enter_no H E5 D 2 _ _ _ wb 2 5 (by decide) _ HB.out (hoS.pn_range D _ wb HB.out.ep)).mono ?_
  rintro r wc ⟨rfl, _, kc⟩
  have KC := Lib.hid kc
  clear kc rb
  go_wp2_with fail
  refine (hoS.works_ wc).mono ?_
  rintro r wd ⟨rfl, kd⟩
  have KD := Lib.hid kd
  clear kd
  go_wp2
  try rw [Exit.noGoto_ret]
  go_ret
  refine ⟨rfl, Keeps.below ?_⟩
  have hl := HL.out
  have hK := HK.out
  have s1 := (K1.out (fun _ => False)).size
  have s2 := K2.out.size
  have g3 := Keeps.glue K2.out K3.out (fun x hx z => by omega)
  have g4 := Keeps.glue g3 K4.out (fun x hx z => by omega)
  have s4 := g4.size
  have g5 := Keeps.glue g4 K5.out (fun x hx z => by omega)
  have g6 := Keeps.glue g5 K6.out (fun x hx z => by omega)
  have g7 := Keeps.glue g6 K7.out (fun x hx z => by omega)
  have g8 := Keeps.glue g7 K8.out (fun x hx z => by omega)
  have g9 := Keeps.glue g8 K9.out (fun x hx z => by omega)
  have ga := Keeps.glue g9 KA.out (fun x hx z => by omega)
  have gb := Keeps.glue ga KB.out (fun x hx z => by omega)
  have gc := Keeps.glue gb KC.out (fun x hx z => by omega)
  exact gc.trans KD.out
end Go.Proofs.YtbemnfoamhbemaaGreat.oc
