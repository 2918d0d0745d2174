/-
  patchbaylaw17: example, awake, sign.
-/
import Derived.Test.YtdnddlmlbnachaaFwT
import Derived.Test.YtdnddlmlbnachaaFwG
import Derived.Test.YtdnddlmlbnachaaFwU
set_option linter.unusedVariables false
set_option linter.unusedSimpArgs false
namespace Go.Proofs.Ytdnddlmlbnachaa.fw
open Go.RowKit Go.Proofs.Ytdnddlmlbnachaa.oc Go.Proofs.Ytdnddlmlbnachaa.mz Go.Proofs.Ytdnddlmlbnachaa.pf Go.Proofs.Ytdnddlmlbnachaa.wh Go.Proofs.Ytdnddlmlbnachaa.qk Go.Proofs.Ytdnddlmlbnachaa.bys
def exK : Ky := ⟨⟨false, [10, 0, 0, 1, 0, 0, 0, 0, 0, 0, 0, 0, 0, 0, 0, 0]⟩, ⟨false, [10, 0, 0, 2, 0, 0, 0, 0, 0, 0, 0, 0, 0, 0, 0, 0]⟩, 17, 53, 1024⟩
theorem exK_wf : exK.Wf := ⟨⟨rfl, by decide⟩, ⟨rfl, by decide⟩, by decide, by decide, by decide⟩
theorem exK_cmp : kcmp exK (kback exK) = -1 := by decide +kernel
theorem exK_cells : kvc exK = [.bool false, .int .u8 10, .int .u8 0, .int .u8 0, .int .u8 1, .int .u8 0, .int .u8 0, .int .u8 0, .int .u8 0, .int .u8 0, .int .u8 0, .int .u8 0, .int .u8 0, .int .u8 0, .int .u8 0, .int .u8 0, .int .u8 0, .bool false, .int .u8 10, .int .u8 0, .int .u8 0, .int .u8 2, .int .u8 0, .int .u8 0, .int .u8 0, .int .u8 0, .int .u8 0, .int .u8 0, .int .u8 0, .int .u8 0, .int .u8 0, .int .u8 0, .int .u8 0, .int .u8 0, .int .u8 17, .int .u16 53, .int .u16 1024] := rfl
section
variable (w : World)
set_option maxRecDepth 100000 in
set_option maxHeartbeats 4000000 in
theorem example_ : Calls Try.prog 27 #[] w fun e w' => e = .returned (kv exK) ∧ ∀ S, Keeps S w w' := by
  obtain ⟨w1, hw1, k1, b0, b1, s1⟩ := box2 w [.bool false, .int .u8 0, .int .u8 0, .int .u8 0, .int .u8 0, .int .u8 0, .int .u8 0, .int .u8 0, .int .u8 0, .int .u8 0, .int .u8 0, .int .u8 0, .int .u8 0, .int .u8 0, .int .u8 0, .int .u8 0, .int .u8 0, .bool false, .int .u8 0, .int .u8 0, .int .u8 0, .int .u8 0, .int .u8 0, .int .u8 0, .int .u8 0, .int .u8 0, .int .u8 0, .int .u8 0, .int .u8 0, .int .u8 0, .int .u8 0, .int .u8 0, .int .u8 0, .int .u8 0, .int .u8 0, .int .u16 0, .int .u16 0] (kvc exK) 31 31
  obtain ⟨t6, b6, k6⟩ := over_mid b0 0 (kvc exK) (by rw [kvc_len exK_wf]; decide)
  rw [kvc_len exK_wf, List.take_zero, List.nil_append, List.drop_of_length_le (by decide), List.append_nil] at b6
  have HRG := Lib.hid (Blk.range b1)
  have HSZ := Lib.hid (key_sz exK_wf)
  have HZT := Lib.hid (show (Try.prog.info? 31).map (·.size) = some (kvc exK).toArray.size from by rw [List.size_toArray]; exact key_sz exK_wf)
  have HON := Lib.hid (all_oneCell_toArray (kvc_one exK))
  have HT6 := Lib.hid t6
  have HB6 := Lib.hid b6
  have HK6 : Hid (∀ S, Keeps S w (w1.setCells w.heap.size 0 (kvc exK))) := Lib.hid (fun S => by
    have q := (k1 (fun x => w.heap.size ≤ x)).trans (k6.mono (S' := fun x => w.heap.size ≤ x) (fun x _ e => by omega))
    exact (q.only (fun b hb => hb)).mono (fun _ _ z => z.elim))
  rw [exK_cells] at hw1
  have HW : Hid (w1 = (w.alloc (.cells #[.bool false, .int .u8 0, .int .u8 0, .int .u8 0, .int .u8 0, .int .u8 0, .int .u8 0, .int .u8 0, .int .u8 0, .int .u8 0, .int .u8 0, .int .u8 0, .int .u8 0, .int .u8 0, .int .u8 0, .int .u8 0, .int .u8 0, .bool false, .int .u8 0, .int .u8 0, .int .u8 0, .int .u8 0, .int .u8 0, .int .u8 0, .int .u8 0, .int .u8 0, .int .u8 0, .int .u8 0, .int .u8 0, .int .u8 0, .int .u8 0, .int .u8 0, .int .u8 0, .int .u8 0, .int .u8 0, .int .u16 0, .int .u16 0] 31)).alloc (.cells #[.bool false, .int .u8 10, .int .u8 0, .int .u8 0, .int .u8 1, .int .u8 0, .int .u8 0, .int .u8 0, .int .u8 0, .int .u8 0, .int .u8 0, .int .u8 0, .int .u8 0, .int .u8 0, .int .u8 0, .int .u8 0, .int .u8 0, .bool false, .int .u8 10, .int .u8 0, .int .u8 0, .int .u8 2, .int .u8 0, .int .u8 0, .int .u8 0, .int .u8 0, .int .u8 0, .int .u8 0, .int .u8 0, .int .u8 0, .int .u8 0, .int .u8 0, .int .u8 0, .int .u8 0, .int .u8 17, .int .u16 53, .int .u16 1024] 31)) := Lib.hid hw1
  unfold kv
  clear hw1 k1 b0 b1 s1 t6 b6 k6
  generalize kvc exK = C at *
  go_enter Try.func27, Try.ntmps27
  go_wp2_with (first
    | (with_reducible rw [← HW.out]; refine wpList_load_mid rfl 31 _ rfl (w.heap.size + 1) 0 rfl C _ HRG.out Try.underlying31 rfl HSZ.out ?_)
    | (refine' wpList_store_mid rfl 31 _ _ rfl w.heap.size 0 C.toArray ?hx rfl ?ht HZT.out HON.out ?_; (case hx => rfl); (case ht => exact HT6.out)))
  try rw [Exit.noGoto_ret]
  refine bodyPost_ret (results_cell_row (p := 0) (ty := 31) (by kernel_rfl) _ _ w.heap.size _ _ _ _ (by rfl) HB6.out Try.underlying31 rfl HZT.out) rfl ?_
  exact ⟨rfl, HK6.out⟩
theorem sign_ (n : Int) (h : n = -1 ∨ n = 0 ∨ n = 1) : Calls Try.prog 26 #[.int .i64 n] w fun e w' => e = .returned (.bool true) ∧ w' = w := by
  rcases h with rfl | rfl | rfl
  all_goals
    go_enter Try.func26, Try.ntmps26
    go_wp2
    try rw [Exit.noGoto_ret]
    go_ret
    exact ⟨rfl, rfl⟩
end
end Go.Proofs.Ytdnddlmlbnachaa.fw
