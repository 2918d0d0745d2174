/-
  hold: the epoch's steps under no gate, as these walks want them; 'works'.
-/
import Derived.Test.YtbemnfoamhbemaaGreatHoY
import Derived.Test.YtbemnfoamhbemaaGreatHoI
set_option linter.unusedVariables false
namespace Go.Proofs.YtbemnfoamhbemaaGreat.hoS
open Go.RowKit Go.Proofs.YtbemnfoamhbemaaGreat.oc Go.Proofs.YtbemnfoamhbemaaGreat.mz Go.Proofs.YtbemnfoamhbemaaGreat.at_ Go.Proofs.YtbemnfoamhbemaaGreat.gt Go.Proofs.YtbemnfoamhbemaaGreat.gw Go.Proofs.YtbemnfoamhbemaaGreat.ep Go.Proofs.YtbemnfoamhbemaaGreat.ho
section
variable (D : Nat) (ws : List Nat) (w : World)
theorem mv_yes (h : Ep w D 2 ws) (ha : away (ws[0]?.getD 0) ws 0 2 = false) (he : ws[0]?.getD 0 < 900000) : Calls Tryz.prog 38 #[.pointer (some ⟨D, 0, none⟩), .nilIface] w fun r w' => (∃ u, r = .returned u) ∧ Ep w' D 2 (ws.set 0 (ws[0]?.getD 0 + 1)) ∧ Keeps (· = D) w w' := by
  refine (move_yes D 2 0 ws .nilIface [] (fun _ => False) w (nil_st h) (by simp) (fun _ z => z.elim) ha he).mono ?_
  rintro r w' ⟨rfl, l⟩
  exact ⟨⟨_, rfl⟩, left_nil l⟩
theorem mv_no (h : Ep w D 2 ws) (ha : away (ws[0]?.getD 0) ws 0 2 = true) : Calls Tryz.prog 38 #[.pointer (some ⟨D, 0, none⟩), .nilIface] w fun r w' => (∃ u, r = .returned u) ∧ Ep w' D 2 ws ∧ Keeps (· = D) w w' := by
  refine (move_no D 2 0 ws .nilIface [] (fun _ => False) w (nil_st h) (by simp) (fun _ z => z.elim) ha).mono ?_
  rintro r w' ⟨rfl, l⟩
  exact ⟨⟨_, rfl⟩, left_nil l⟩
theorem pn_yes (h : Ep w D 2 ws) (hp : ws[1]?.getD 0 = 0) : Calls Tryz.prog 36 #[.pointer (some ⟨D, 0, none⟩), .nilIface, .int .i64 0] w fun r w' => (∃ u, r = .returned (.tuple #[u, .int .i64 0])) ∧ Ep w' D 2 (ws.set 1 (ws[0]?.getD 0)) ∧ Keeps (· = D) w w' := by
  refine (pin_yes D 2 0 0 ws .nilIface [] (fun _ => False) w (nil_st h) (by simp) (by omega) hp).mono ?_
  rintro r w' ⟨rfl, l⟩
  exact ⟨⟨_, rfl⟩, left_nil l⟩
theorem pn_no (h : Ep w D 2 ws) (hp : ¬ ws[1]?.getD 0 = 0) : Calls Tryz.prog 36 #[.pointer (some ⟨D, 0, none⟩), .nilIface, .int .i64 0] w fun r w' => (∃ u, r = .returned (.tuple #[u, .int .i64 90])) ∧ Ep w' D 2 ws ∧ Keeps (· = D) w w' := by
  refine (pin_no D 2 0 0 ws .nilIface [] (fun _ => False) w (nil_st h) (by simp) (by omega) hp).mono ?_
  rintro r w' ⟨rfl, l⟩
  exact ⟨⟨_, rfl⟩, left_nil l⟩
theorem pn_range (h : Ep w D 2 ws) : Calls Tryz.prog 36 #[.pointer (some ⟨D, 0, none⟩), .nilIface, .int .i64 2] w fun r w' => (∃ u, r = .returned (.tuple #[u, .int .i64 5])) ∧ Ep w' D 2 ws ∧ Keeps (· = D) w w' := by
  refine (pin_range D 2 0 ws .nilIface [] (fun _ => False) w 2 (nil_st h) (fun _ z => z.elim) (.inr (by omega))).mono ?_
  rintro r w' ⟨rfl, l⟩
  exact ⟨⟨_, rfl⟩, left_nil l⟩
theorem up_yes (h : Ep w D 2 ws) (hp : ¬ ws[1]?.getD 0 = 0) : Calls Tryz.prog 43 #[.pointer (some ⟨D, 0, none⟩), .nilIface, .int .i64 0] w fun r w' => r = .returned (.int .i64 0) ∧ Ep w' D 2 (ws.set 1 0) ∧ Keeps (· = D) w w' := by
  refine (unpin_yes D 2 0 0 ws .nilIface [] (fun _ => False) w (nil_st h) (by simp) (by omega) hp).mono ?_
  rintro r w' ⟨rfl, l⟩
  exact ⟨rfl, left_nil l⟩
theorem up_no (h : Ep w D 2 ws) (hp : ws[1]?.getD 0 = 0) : Calls Tryz.prog 43 #[.pointer (some ⟨D, 0, none⟩), .nilIface, .int .i64 0] w fun r w' => r = .returned (.int .i64 90) ∧ Ep w' D 2 ws ∧ Keeps (· = D) w w' := by
  refine (unpin_no D 2 0 0 ws .nilIface [] (fun _ => False) w (nil_st h) (by simp) (by omega) hp).mono ?_
  rintro r w' ⟨rfl, l⟩
  exact ⟨rfl, left_nil l⟩
end
def sA : ByteArray := ⟨#[97]⟩
def sB : ByteArray := ⟨#[98]⟩
set_option maxRecDepth 100000 in
set_option maxHeartbeats 2000000 in
theorem works_ (w : World) : Calls Tryz.prog 18 #[] w fun r w' => r = .returned (.bool true) ∧ Keeps (fun _ => False) w w' := by
  have HNew := Lib.hid (hnew_ok ⟨#[97]⟩ w)
  go_enter Tryz.func18, Tryz.ntmps18
  go_wp2_with fail
  refine HNew.out.mono ?_
  rintro r w1 ⟨H, E, D, rfl, h1, hl, k1⟩
  have HNow := Lib.hid (hNow_ H E D 1 _ _ _ w1 h1)
  have HL := Lib.hid hl
  have H1 := Lib.hid h1
  have K1 := Lib.hid k1
  have LW := Lib.hid (show w.heap.size ≤ w1.heap.size from (k1 (fun _ => False)).size)
  clear h1 k1 hl
  go_wp2_with fail
  refine HNow.out.mono ?_
  rintro r w2 ⟨rfl, k2, hk2⟩
  have d2 : Keeps (fun _ => False) w1 w2 := by rw [hk2]; exact Keeps.of_drew _ _
  have h2 := H1.out.keeps d2 (fun z => z) (fun z => z) (fun z => z)
  have HPut := Lib.hid (put_ H E D 1 _ _ w2 2 rfl (by omega) ⟨#[98]⟩ h2)
  have K2 := Lib.hid (show Keeps (fun _ => False) w w2 from (K1.out _).trans d2)
  clear d2 h2 hk2
  go_wp2_with fail
  refine HPut.out.mono ?_
  rintro r w3 ⟨rfl, E3, K, c, r3, hK, k3⟩
  have HM3 := mv_yes D (startW 2) w3 r3.hd.ep (by decide) (by decide)
  have HF3 := Lib.hid (hfree_no H E3 D 2 _ _ w3 K c E 1 1 _ ([2, 0, 0] : List Nat) r3 (by decide) (by decide) HM3)
  have K3 := Lib.hid k3
  have HK := Lib.hid hK
  clear r3 k3 HM3 hK
  go_wp2_with fail
  refine HF3.out.mono ?_
  rintro r w4 ⟨rfl, r4, k4⟩
  have HM4 := mv_yes D [2, 0, 0] w4 r4.hd.ep (by decide) (by decide)
  have HF4 := Lib.hid (hfree_yes H E3 D 2 _ _ w4 K c E 1 1 _ ([3, 0, 0] : List Nat) r4 (by decide) (by decide) HM4)
  have K4 := Lib.hid k4
  clear r4 k4 HM4
  go_wp2_with fail
  refine HF4.out.mono ?_
  rintro r w5 ⟨R, c', rfl, r5, d5, k5⟩
  have K5 := Lib.hid k5
  clear k5 d5
  go_wp2
  try rw [Exit.noGoto_ret]
  go_ret
  refine ⟨rfl, ?_⟩
  have hl := HL.out
  have hK := HK.out
  have s2 := K2.out.size
  have k3 := Keeps.glue (K2.out.mono (S' := fun _ => False) (fun _ _ z => z)) K3.out (fun x hx z => by omega)
  have k4 := Keeps.glue k3 K4.out (fun x hx z => by omega)
  exact Keeps.glue k4 K5.out (fun x hx z => by omega)
end Go.Proofs.YtbemnfoamhbemaaGreat.hoS
