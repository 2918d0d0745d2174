/-
  hold at string, under no gate: what is published; Now, Enter, Leave.
-/
import Derived.Test.YtbemnfoamhbemaaGreatHoW
import Derived.BigQuiet
set_option linter.unusedVariables false
namespace Go.Proofs.YtbemnfoamhbemaaGreat.hoS
open Go.RowKit Go.Proofs.YtbemnfoamhbemaaGreat.oc Go.Proofs.YtbemnfoamhbemaaGreat.mz Go.Proofs.YtbemnfoamhbemaaGreat.at_ Go.Proofs.YtbemnfoamhbemaaGreat.gt Go.Proofs.YtbemnfoamhbemaaGreat.gw Go.Proofs.YtbemnfoamhbemaaGreat.ep Go.Proofs.YtbemnfoamhbemaaGreat.ho
theorem hold_info : (Tryz.prog.info? 119).map (fun i => i.size) = some 6 := by kernel_rfl
theorem hold_self (w : World) (a : Addr) : (binOp .neq 58 (.pointer (some a)) (.pointer (some a))).run Tryz.prog w = .ok (.bool false) w := by
  cases hi : Tryz.prog.info? 119 with
  | none => have := hold_info; rw [hi] at this; cases this
  | some i => exact Lib.run_neq_ptr_same w a Tryz.underlying58 hi
/-- block H is a hold that publishes s as version n (entry E), its domain D of two slots has the words ws, its list is lv -/
structure Hd (w : World) (H E D : Nat) (s : ByteArray) (n : Nat) (lv : Value) (ws : List Nat) : Prop where
  blk : Blk w H 119 (cellsH H E D 0 lv)
  ent : Blk w E 122 [.string s, .int .u64 (n : Int)]
  ep : Ep w D 2 ws
  hE : ¬ E = H
  hD : ¬ D = H
  hED : ¬ E = D
section
variable {w w' : World} {H E D n : Nat} {s : ByteArray} {lv : Value} {ws ws' : List Nat}
theorem Hd.keeps {S : Nat → Prop} (h : Hd w H E D s n lv ws) (k : Keeps S w w') (hH : ¬ S H) (hE : ¬ S E) (hD : ¬ S D) : Hd w' H E D s n lv ws :=
  ⟨Blk.keeps h.blk k hH, Blk.keeps h.ent k hE, h.ep.keeps k hD, h.hE, h.hD, h.hED⟩
theorem Hd.dom (h : Hd w H E D s n lv ws) (k : Keeps (· = D) w w') (e : Ep w' D 2 ws') : Hd w' H E D s n lv ws' :=
  ⟨Blk.keeps h.blk k (fun z => h.hD z.symm), Blk.keeps h.ent k h.hED, e, h.hE, h.hD, h.hED⟩
theorem nil_st (e : Ep w D 2 ws) : St w D 2 0 ws .nilIface [] (fun _ => False) := ⟨e, GF.nil_ _ _ _ _, fun z => z⟩
theorem left_nil {N : Nat} {gv : Value} {ms : List (Nat × Nat)} (l : ep.Left D 2 N ws gv ms (fun _ => False) w w') : Ep w' D 2 ws ∧ Keeps (· = D) w w' := ⟨l.ep, l.keep.mono (fun _ _ z => z.elim id False.elim)⟩
end
section
variable (H E D n : Nat) (s : ByteArray) (lv : Value) (ws : List Nat) (w : World)
set_option maxRecDepth 100000 in
set_option maxHeartbeats 1000000 in
theorem none_ (h : Hd w H E D s n lv ws) : Calls Tryz.prog 47 #[.pointer (some ⟨H, 0, none⟩)] w fun r w' => r = .returned (.bool false) ∧ w = w' := by
  have p0 : w.cell? ⟨H, 0, none⟩ = some (.pointer (some ⟨H, 0, none⟩)) := by rw [h.blk.cell]; rfl
  have hns := hold_self
  clear h
  go_enter Tryz.func47, Tryz.ntmps47
  go_wp2
  go_ret
  exact ⟨rfl, rfl⟩
set_option maxRecDepth 100000 in
set_option maxHeartbeats 1000000 in
theorem load_ (h : Hd w H E D s n lv ws) : Calls Tryz.prog 49 #[.pointer (some ⟨H, 0, none⟩), .nilIface] w fun r w' => r = .returned (.pointer (some ⟨E, 0, none⟩)) ∧ w = w' := by
  have HT := Lib.hid (tell_nil 1 0 w)
  have HP := Lib.hid (p_load H 1 E _ _ w (by rw [h.blk.cell]; rfl) h.ent)
  clear h
  go_enter Tryz.func49, Tryz.ntmps49
  go_wp2_with fail
  refine HT.out.mono ?_
  rintro r w' ⟨rfl, rfl⟩
  go_wp2_with fail
  refine HP.out.mono ?_
  rintro r w' ⟨rfl, rfl⟩
  go_wp2
  go_ret
  exact ⟨rfl, rfl⟩
set_option maxRecDepth 100000 in
set_option maxHeartbeats 1000000 in
theorem refused_ (e : Int) (w : World) : Calls Tryz.prog 48 #[.int .i64 e] w fun r w' => r = .returned (.tuple #[.string ⟨#[]⟩, .int .u64 0, .int .i64 e]) ∧ w = w' := by
  go_enter Tryz.func48, Tryz.ntmps48
  go_wp2
  try simp only [Exit.inBlock, Exit.then]
  refine bodyPost_ret (results_tmp3 rfl _ _ _) rfl ?_
  exact ⟨rfl, rfl⟩
set_option maxRecDepth 100000 in
set_option maxHeartbeats 1000000 in
theorem hNow_ (h : Hd w H E D s n lv ws) : Calls Tryz.prog 52 #[.pointer (some ⟨H, 0, none⟩), .nilIface] w fun r w' => r = .returned (.tuple #[.string s, .int .u64 (n : Int), .int .i64 0]) ∧ ∃ k, w' = w.drewN k := by
  have HN := Lib.hid (none_ H E D n s lv ws w h)
  have HL := Lib.hid (load_ H E D n s lv ws w h)
  have e0 : w.cell? ⟨E, 0, none⟩ = some (.string s) := by rw [h.ent.cell]; rfl
  have e1 : w.cell? ⟨E, 1, none⟩ = some (.int .u64 (n : Int)) := by rw [h.ent.cell]; rfl
  clear h
  go_enter Tryz.func52, Tryz.ntmps52
  go_wp2_with fail
  refine HN.out.mono ?_
  rintro r w' ⟨rfl, rfl⟩
  go_wp2_with fail
  refine HL.out.mono ?_
  rintro r w' ⟨rfl, rfl⟩
  go_wp2_with fail
  go_quiet (fail)
  go_wp2
  try rw [Exit.noGoto_ret]
  try simp only [Exit.inBlock, Exit.then]
  refine bodyPost_ret (results_tmp3 rfl _ _ _) rfl ?_
  exact ⟨rfl, _, rfl⟩
set_option maxRecDepth 100000 in
set_option maxHeartbeats 1000000 in
theorem enter_no (x e : Int) (he : e ≠ 0) (ws' : List Nat) (h : Hd w H E D s n lv ws) (HP : Calls Tryz.prog 36 #[.pointer (some ⟨D, 0, none⟩), .nilIface, .int .i64 x] w fun r w' => (∃ u, r = .returned (.tuple #[u, .int .i64 e])) ∧ Ep w' D 2 ws' ∧ Keeps (· = D) w w') :
    Calls Tryz.prog 14 #[.pointer (some ⟨H, 0, none⟩), .nilIface, .int .i64 x] w fun r w' => r = .returned (.tuple #[.string ⟨#[]⟩, .int .u64 0, .int .i64 e]) ∧ Hd w' H E D s n lv ws' ∧ Keeps (· = D) w w' := by
  have HN := Lib.hid (none_ H E D n s lv ws w h)
  have c2 : w.cell? ⟨H, 2, none⟩ = some (.pointer (some ⟨D, 0, none⟩)) := by rw [h.blk.cell]; rfl
  have HH := Lib.hid h
  have HP := Lib.hid HP
  have hq : (e == 0) = false := by simpa using he
  clear h he
  go_enter Tryz.func14, Tryz.ntmps14
  go_wp2_with fail
  refine HN.out.mono ?_
  rintro r w' ⟨rfl, rfl⟩
  go_wp2_with fail
  refine HP.out.mono ?_
  rintro r w1 ⟨⟨u, rfl⟩, e1, k1⟩
  have HR := Lib.hid (refused_ e w1)
  have H1 := Lib.hid (HH.out.dom k1 e1)
  have K1 := Lib.hid k1
  clear e1 k1
  go_wp2_with fail
  refine HR.out.mono ?_
  rintro r w' ⟨rfl, rfl⟩
  go_wp2
  try rw [Exit.noGoto_ret]
  try simp only [Exit.inBlock, Exit.then]
  refine bodyPost_ret (results_tmp3 rfl _ _ _) rfl ?_
  exact ⟨rfl, H1.out, K1.out⟩
set_option maxRecDepth 100000 in
set_option maxHeartbeats 1000000 in
theorem enter_ok (x : Int) (ws' : List Nat) (h : Hd w H E D s n lv ws) (HP : Calls Tryz.prog 36 #[.pointer (some ⟨D, 0, none⟩), .nilIface, .int .i64 x] w fun r w' => (∃ u, r = .returned (.tuple #[u, .int .i64 0])) ∧ Ep w' D 2 ws' ∧ Keeps (· = D) w w') :
    Calls Tryz.prog 14 #[.pointer (some ⟨H, 0, none⟩), .nilIface, .int .i64 x] w fun r w' => r = .returned (.tuple #[.string s, .int .u64 (n : Int), .int .i64 0]) ∧ Hd w' H E D s n lv ws' ∧ Keeps (· = D) w w' := by
  have HN := Lib.hid (none_ H E D n s lv ws w h)
  have c2 : w.cell? ⟨H, 2, none⟩ = some (.pointer (some ⟨D, 0, none⟩)) := by rw [h.blk.cell]; rfl
  have HH := Lib.hid h
  have HP := Lib.hid HP
  clear h
  go_enter Tryz.func14, Tryz.ntmps14
  go_wp2_with fail
  refine HN.out.mono ?_
  rintro r w' ⟨rfl, rfl⟩
  go_wp2_with fail
  refine HP.out.mono ?_
  rintro r w1 ⟨⟨u, rfl⟩, ep1, k1⟩
  have h1 := HH.out.dom k1 ep1
  have HL := Lib.hid (load_ H E D n s lv ws' w1 h1)
  have e0 : w1.cell? ⟨E, 0, none⟩ = some (.string s) := by rw [h1.ent.cell]; rfl
  have e1 : w1.cell? ⟨E, 1, none⟩ = some (.int .u64 (n : Int)) := by rw [h1.ent.cell]; rfl
  have H1 := Lib.hid h1
  have K1 := Lib.hid k1
  clear ep1 k1 h1 c2
  go_wp2_with fail
  refine HL.out.mono ?_
  rintro r w' ⟨rfl, rfl⟩
  go_wp2_with fail
  go_quiet (fail)
  go_wp2
  try rw [Exit.noGoto_ret]
  try simp only [Exit.inBlock, Exit.then]
  refine bodyPost_ret (results_tmp3 rfl _ _ _) rfl ?_
  have kk := Keeps.of_drew (S := fun _ => False) w1 1
  exact ⟨rfl, H1.out.keeps (Keeps.of_drew (S := fun _ => False) w1 _) (fun z => z) (fun z => z) (fun z => z), K1.out.trans (Keeps.of_drew w1 _)⟩
set_option maxRecDepth 100000 in
set_option maxHeartbeats 1000000 in
theorem leave_ (x e : Int) (ws' : List Nat) (h : Hd w H E D s n lv ws) (HP : Calls Tryz.prog 43 #[.pointer (some ⟨D, 0, none⟩), .nilIface, .int .i64 x] w fun r w' => r = .returned (.int .i64 e) ∧ Ep w' D 2 ws' ∧ Keeps (· = D) w w') :
    Calls Tryz.prog 17 #[.pointer (some ⟨H, 0, none⟩), .nilIface, .int .i64 x] w fun r w' => r = .returned (.int .i64 e) ∧ Hd w' H E D s n lv ws' ∧ Keeps (· = D) w w' := by
  have HN := Lib.hid (none_ H E D n s lv ws w h)
  have c2 : w.cell? ⟨H, 2, none⟩ = some (.pointer (some ⟨D, 0, none⟩)) := by rw [h.blk.cell]; rfl
  have HH := Lib.hid h
  have HP := Lib.hid HP
  clear h
  go_enter Tryz.func17, Tryz.ntmps17
  go_wp2_with fail
  refine HN.out.mono ?_
  rintro r w' ⟨rfl, rfl⟩
  go_wp2_with fail
  refine HP.out.mono ?_
  rintro r w1 ⟨rfl, e1, k1⟩
  have H1 := Lib.hid (HH.out.dom k1 e1)
  have K1 := Lib.hid k1
  clear e1 k1 c2
  go_wp2
  try rw [Exit.noGoto_ret]
  go_ret
  exact ⟨rfl, H1.out, K1.out⟩
end
end Go.Proofs.YtbemnfoamhbemaaGreat.hoS
