/-
  hold at string: the pointer to what is published; the shelf: what is kept.
-/
import Derived.Test.YtbemnfoamhbemaaGreatEpAll
import Derived.Test.YtbemnfoamhbemaaGreatHoP
import Derived.Test.YtbemnfoamhbemaaGreatMzApp
import Derived.Test.YtbemnfoamhbemaaGreatOcApp
set_option linter.unusedVariables false
namespace Go.Proofs.YtbemnfoamhbemaaGreat.hoS
open Go.RowKit Go.Proofs.YtbemnfoamhbemaaGreat.oc Go.Proofs.YtbemnfoamhbemaaGreat.mz Go.Proofs.YtbemnfoamhbemaaGreat.at_ Go.Proofs.YtbemnfoamhbemaaGreat.gt Go.Proofs.YtbemnfoamhbemaaGreat.gw Go.Proofs.YtbemnfoamhbemaaGreat.ep Go.Proofs.YtbemnfoamhbemaaGreat.ho
theorem ent_info : (Tryz.prog.info? 122).map (fun i => decide (i.size = 0)) = some false := by kernel_rfl
theorem ent_lies : liesAt Tryz.prog Tryz.prog.depth 122 (2 / Tryz.prog.cellsOf 122) 0 122 1 = true := by kernel_rfl
set_option maxRecDepth 100000 in
set_option maxHeartbeats 1000000 in
theorem ent_to {w : World} {g : Nat} {v n : Value} (h : Blk w g 122 [v, n]) : (convert 111 27 (.pointer (some ⟨g, 0, none⟩))).run Tryz.prog w = .ok (.pointer (some ⟨g, 0, none⟩)) w :=
  run_convert_to_unsafe (t := 122) (by kernel_rfl) (by kernel_rfl) ent_info (v := v) (by rw [h.cell]; rfl)
set_option maxRecDepth 100000 in
set_option maxHeartbeats 1000000 in
theorem ent_from {w : World} {g : Nat} {v n : Value} (h : Blk w g 122 [v, n]) : (convert 27 111 (.pointer (some ⟨g, 0, none⟩))).run Tryz.prog w = .ok (.pointer (some ⟨g, 0, none⟩)) w := by
  obtain ⟨j, hj, _⟩ := Option.map_eq_some_iff.1 ent_info
  exact Lib.run_from_unsafe (e := 122) (u := 122) (cells := 2) w ⟨g, 0, none⟩ (by kernel_rfl) (by kernel_rfl) hj (shape_of_blk h) ent_lies
set_option maxRecDepth 100000 in
set_option maxHeartbeats 1000000 in
theorem p_load (b o e : Nat) (v n : Value) (w : World) (h : w.cell? ⟨b, o, none⟩ = some (.pointer (some ⟨e, 0, none⟩))) (he : Blk w e 122 [v, n]) : Calls Tryz.prog 93 #[.pointer (some ⟨b, o, none⟩)] w fun r w' => r = .returned (.pointer (some ⟨e, 0, none⟩)) ∧ w = w' := by
  have hl := run_call_loadp (P := Tryz.prog) Tryz.func89 (by kernel_rfl) (by kernel_rfl) (by kernel_rfl) (by kernel_rfl) h
  have hc := ent_from he
  clear he
  go_enter Tryz.func93, Tryz.ntmps93
  go_wp2
  go_ret
  exact ⟨rfl, rfl⟩
set_option maxRecDepth 100000 in
set_option maxHeartbeats 1000000 in
theorem p_store (b o e : Nat) (u v n : Value) (w : World) (h : w.cell? ⟨b, o, none⟩ = some u) (hf : w.frozen? ⟨b, o, none⟩ = false) (he : Blk w e 122 [v, n]) : Calls Tryz.prog 46 #[.pointer (some ⟨b, o, none⟩), .pointer (some ⟨e, 0, none⟩)] w fun r w' => r = .returned (.tuple #[]) ∧ w.setCell ⟨b, o, none⟩ (.pointer (some ⟨e, 0, none⟩)) = w' := by
  have hl := run_call_storep (P := Tryz.prog) Tryz.func92 (by kernel_rfl) (by kernel_rfl) (by kernel_rfl) (by kernel_rfl) (y := some ⟨e, 0, none⟩) h hf
  have hc := ent_to he
  clear he
  go_enter Tryz.func46, Tryz.ntmps46
  go_wp2
  go_end0
  exact ⟨rfl, rfl⟩
set_option maxRecDepth 100000 in
set_option maxHeartbeats 1000000 in
theorem p_cas (b o e e' : Nat) (v n v' n' : Value) (w : World) (h : w.cell? ⟨b, o, none⟩ = some (.pointer (some ⟨e, 0, none⟩))) (hf : w.frozen? ⟨b, o, none⟩ = false) (he : Blk w e 122 [v, n]) (he' : Blk w e' 122 [v', n']) : Calls Tryz.prog 94 #[.pointer (some ⟨b, o, none⟩), .pointer (some ⟨e, 0, none⟩), .pointer (some ⟨e', 0, none⟩)] w fun r w' => r = .returned (.bool true) ∧ w.setCell ⟨b, o, none⟩ (.pointer (some ⟨e', 0, none⟩)) = w' := by
  have hl := run_call_casp (P := Tryz.prog) Tryz.func115 (by kernel_rfl) (by kernel_rfl) (by kernel_rfl) (by kernel_rfl) (y := some ⟨e', 0, none⟩) h hf
  have hc := ent_to he
  have hc' := ent_to he'
  clear he he'
  go_enter Tryz.func94, Tryz.ntmps94
  go_wp2
  go_ret
  exact ⟨rfl, rfl⟩
set_option maxRecDepth 100000 in
set_option maxHeartbeats 1000000 in
theorem find_nil (H o : Nat) (v : Int) (w : World) (h : w.cell? ⟨H, o + 2, none⟩ = some (.slice none 0 0)) : Calls Tryz.prog 125 #[.pointer (some ⟨H, o, none⟩), .int .u64 v] w fun r w' => r = .returned (.tuple #[.int .i64 0, .bool false]) ∧ w = w' := by
  have HB : Calls Tryz.prog 149 #[.slice none 0 0, .int .u64 v, .func (.func 150) #[] #[]] w fun r w' => r = .returned (.tuple #[.int .i64 0, .bool false]) ∧ w = w' := by
    go_enter Tryz.func149, Tryz.ntmps149
    go_wp2_with fail
    refine wp_loop_rounds 1 ?_
    rw [rounds_succ]
    go_wp2_with fail
    try rw [Exit.noGoto_ret]
    go_ret2
    exact ⟨rfl, rfl⟩
  have HBH := Lib.hid HB
  clear HB
  go_enter Tryz.func125, Tryz.ntmps125
  go_wp2_with fail
  refine HBH.out.mono ?_
  rintro e w' ⟨rfl, rfl⟩
  go_wp2
  go_ret2
  exact ⟨rfl, rfl⟩
end Go.Proofs.YtbemnfoamhbemaaGreat.hoS
