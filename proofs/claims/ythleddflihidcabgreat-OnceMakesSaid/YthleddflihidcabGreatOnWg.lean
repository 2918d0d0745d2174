/-
  sync.WaitGroup, alone: Add(1) from nothing, Done back to nothing.
-/
import Derived.Test.YthleddflihidcabGreatAtU
import Derived.Test.YthleddflihidcabGreatOnX
import Derived.Laws.Externs
import Derived.Laws.Pointers
namespace Go.Proofs.YthleddflihidcabGreat.on
open Go.RowKit Go.Proofs.YthleddflihidcabGreat.oc Go.Proofs.YthleddflihidcabGreat.mz Go.Proofs.YthleddflihidcabGreat.at_
theorem bubble (w : World) : (callFunc 51 #[]).run Tryz.prog w = .ok (.value (.bool false)) w := by
  rw [run_callFunc_extern Tryz.func51 (by kernel_rfl) (by kernel_rfl) (by kernel_rfl) (e := fun _ => pure (.bool false)) (by kernel_rfl)]
  rfl
set_option maxRecDepth 100000 in
set_option maxHeartbeats 4000000 in
theorem wg_add (b o : Nat) (w : World) (h : w.cell? ⟨b, o, none⟩ = some (.int .u64 0)) (h1 : w.cell? ⟨b, o + 1, none⟩ = some (.int .u32 0)) (hf : w.frozen? ⟨b, o, none⟩ = false) :
    Calls Tryz.prog 36 #[.pointer (some ⟨b, o, none⟩), .int .i64 1] w fun e w' => e = .returned (.tuple #[]) ∧ w' = w.setCell ⟨b, o, none⟩ (.int .u64 4294967296) := by
  have hd := fun w => run_call_mark0 (P := Tryz.prog) Tryz.func49 (by kernel_rfl) (by kernel_rfl) (by kernel_rfl) .disable (by kernel_rfl) w
  have hb := bubble
  have ha := run_call_add (P := Tryz.prog) Tryz.func76 (by kernel_rfl) (by kernel_rfl) (by kernel_rfl) .u64 (by kernel_rfl) (y := 4294967296) (s := IntKind.u64.wrap (0 + 4294967296)) h hf rfl
  rw [show IntKind.u64.wrap (0 + 4294967296) = 4294967296 from by decide] at ha
  have h2 : (w.setCell ⟨b, o, none⟩ (.int .u64 4294967296)).cell? ⟨b, o + 1, none⟩ = some (.int .u32 0) := by rw [World.cell?_setCell_other _ _ _ _ (by simp)]; exact h1
  have hr := fun w => run_call_marked (P := Tryz.prog) Tryz.func56 (by kernel_rfl) (by kernel_rfl) (by kernel_rfl) .read (by kernel_rfl) ⟨b, o + 1, none⟩ w
  have hcv := run_convert_to_unsafe (P := Tryz.prog) (src := 146) (dst := 140) Tryz.underlying146 Tryz.underlying140 (by kernel_rfl) h2
  refine calls_of_wp_E Tryz.func36 rfl ?_
  simp only [Tryz.ntmps36, List.size_toArray, List.length_cons, List.length_nil, Nat.reduceAdd, Nat.reduceSub, Array.replicate_succ, Array.replicate_zero, List.push_toArray, List.append_toArray, List.nil_append, List.cons_append]
  have he := fun w => run_call_mark0 (P := Tryz.prog) Tryz.func50 (by kernel_rfl) (by kernel_rfl) (by kernel_rfl) .enable (by kernel_rfl) w
  go_wp2
  exact leavesE_one (he _) (results_none rfl _ _ _) ⟨rfl, rfl⟩
set_option maxRecDepth 100000 in
set_option maxHeartbeats 4000000 in
theorem wg_sub (b o : Nat) (w : World) (h : w.cell? ⟨b, o, none⟩ = some (.int .u64 4294967296)) (hf : w.frozen? ⟨b, o, none⟩ = false) :
    Calls Tryz.prog 36 #[.pointer (some ⟨b, o, none⟩), .int .i64 (-1)] w fun e w' => e = .returned (.tuple #[]) ∧ w' = w.setCell ⟨b, o, none⟩ (.int .u64 0) := by
  have hd := fun w => run_call_mark0 (P := Tryz.prog) Tryz.func49 (by kernel_rfl) (by kernel_rfl) (by kernel_rfl) .disable (by kernel_rfl) w
  have hb := bubble
  have ha := run_call_add (P := Tryz.prog) Tryz.func76 (by kernel_rfl) (by kernel_rfl) (by kernel_rfl) .u64 (by kernel_rfl) (y := IntKind.u64.wrap (IntKind.u64.wrap (-1) * 4294967296)) (s := IntKind.u64.wrap (4294967296 + IntKind.u64.wrap (IntKind.u64.wrap (-1) * 4294967296))) h hf rfl
  rw [show IntKind.u64.wrap (4294967296 + IntKind.u64.wrap (IntKind.u64.wrap (-1) * 4294967296)) = 0 from by decide] at ha
  have hr := fun w => run_call_marked (P := Tryz.prog) Tryz.func48 (by kernel_rfl) (by kernel_rfl) (by kernel_rfl) .releaseMerge (by kernel_rfl) ⟨b, o, none⟩ w
  have hcv := run_convert_to_unsafe (P := Tryz.prog) (src := 138) (dst := 140) Tryz.underlying138 Tryz.underlying140 (by kernel_rfl) h
  have he := fun w => run_call_mark0 (P := Tryz.prog) Tryz.func50 (by kernel_rfl) (by kernel_rfl) (by kernel_rfl) .enable (by kernel_rfl) w
  refine calls_of_wp_E Tryz.func36 rfl ?_
  simp only [Tryz.ntmps36, List.size_toArray, List.length_cons, List.length_nil, Nat.reduceAdd, Nat.reduceSub, Array.replicate_succ, Array.replicate_zero, List.push_toArray, List.append_toArray, List.nil_append, List.cons_append]
  go_wp2
  exact leavesE_one (he _) (results_none rfl _ _ _) ⟨rfl, rfl⟩
theorem wg_done (b o : Nat) (w : World) (u : FrameMode) (h : w.cell? ⟨b, o, none⟩ = some (.int .u64 4294967296)) (hf : w.frozen? ⟨b, o, none⟩ = false) :
    CallsD Tryz.prog 84 #[.pointer (some ⟨b, o, none⟩)] u w fun e u' w' => u' = u ∧ (e = .returned (.tuple #[]) ∧ w' = w.setCell ⟨b, o, none⟩ (.int .u64 0)) := by
  have HS := Lib.hid (wg_sub b o w h hf)
  clear h hf
  go_enter_d Tryz.func84, Tryz.ntmps84
  go_wp2_with fail
  refine HS.out.mono ?_
  rintro e w' ⟨rfl, rfl⟩
  go_wp2
  go_end0
  exact ⟨rfl, rfl⟩
end Go.Proofs.YthleddflihidcabGreat.on
