/-
  once's tables of ints: Made of three slots, of which the last one has been asked for.
-/
import Derived.Test.YthleddflihidcaaOnTg
import Derived.Test.YthleddflihidcaaOcApp
import Derived.Deep.LoopGhost
set_option linter.unusedVariables false
namespace Go.Proofs.Ythleddflihidcaa.onI
open Go.RowKit Go.Proofs.Ythleddflihidcaa.oc Go.Proofs.Ythleddflihidcaa.mz Go.Proofs.Ythleddflihidcaa.at_ Go.Proofs.Ythleddflihidcaa.on
theorem int_info : (Try.prog.info? 3).map (fun i => (i.zero, i.size, i.bytes)) = some (some (.int .i64 0), 1, 8) := by kernel_rfl
theorem blk_keeps {w w' : World} {g : Nat} {t : TypeId} {cs : List Value} (h : Blk w g t cs) (k : ∀ S, Keeps S w w') : Blk w' g t cs := Blk.keeps h (k (fun _ => False)) (fun z => z)
set_option maxRecDepth 100000 in
set_option maxHeartbeats 4000000 in
theorem tmade3 (X B : Nat) (mk : Value) (v0 : Value) (w : World) (h : Tab w X B mk 3 (sl 0 0 0 4294967296 0 v0 0 ++ (sl 0 0 0 4294967296 0 v0 0 ++ (sl 2 1 0 0 2 (.int .i64 20) 0 ++ [])))) :
    Calls Try.prog 9 #[.pointer (some ⟨X, 0, none⟩)] w fun e w' => ∃ g c, e = .returned (.slice (some ⟨g, 0, none⟩) 1 c) ∧ w'.cell? ⟨g, 0, none⟩ = some (.int .i64 2) ∧ (∀ S, Keeps S w w') := by
  obtain ⟨i, hi, hx⟩ := Option.map_eq_some_iff.1 int_info
  simp only [Prod.mk.injEq] at hx
  obtain ⟨hz0, hz1, hz2⟩ := hx
  have HN := Lib.hid (tnone_ X B 3 mk _ w h)
  have c3 : w.cell? ⟨X, 2, none⟩ = some (.slice (some ⟨B, 0, none⟩) 3 3) := by rw [h.head.cell]; rfl
  have s0 : Slot w B 0 50 [] (sl 0 0 0 4294967296 0 v0 0 ++ (sl 2 1 0 0 2 (.int .i64 20) 0 ++ [])) (sl 0 0 0 4294967296 0 v0 0) := ⟨h.row, rfl⟩
  have s1 : Slot w B 9 50 (sl 0 0 0 4294967296 0 v0 0) (sl 2 1 0 0 2 (.int .i64 20) 0 ++ []) (sl 0 0 0 4294967296 0 v0 0) := ⟨h.row, rfl⟩
  have s2 : Slot w B 18 50 (sl 0 0 0 4294967296 0 v0 0 ++ sl 0 0 0 4294967296 0 v0 0) [] (sl 2 1 0 0 2 (.int .i64 20) 0) := ⟨h.row, rfl⟩
  have H0 := Lib.hid (called_0 B 0 _ _ _ _ _ _ _ _ _ w s0)
  have H1 := Lib.hid (called_0 B 9 _ _ _ _ _ _ _ _ _ w s1)
  have H2 := Lib.hid (called_1 B 18 _ _ _ 2 _ _ _ _ _ _ w rfl s2)
  clear h s0 s1 s2
  go_enter Try.func9, Try.ntmps9
  go_wp2_with fail
  refine HN.out.mono ?_
  rintro e w' ⟨rfl, rfl⟩
  go_wp2_with fail
  refine wp_loop_rounds 4 ?_
  rw [rounds_succ]
  go_wp2_with fail
  refine H0.out.mono ?_
  rintro e w' ⟨rfl, rfl⟩
  go_wp2_with fail
  rw [rounds_succ]
  go_wp2_with fail
  refine H1.out.mono ?_
  rintro e w' ⟨rfl, rfl⟩
  go_wp2_with fail
  rw [rounds_succ]
  go_wp2_with fail
  refine H2.out.mono ?_
  rintro e w' ⟨rfl, rfl⟩
  have hlit : Rd (w.alloc (.cells #[.int .i64 2] 3)) (w.heap.size + 1) (some ⟨w.heap.size, 0, none⟩) [.int .i64 2] := (Blk.new w 3 #[.int .i64 2]).rd
  have ho0 : (w.alloc (.cells #[.int .i64 2] 3)).ownsRow w.heap.size 3 1 (.slice none 0 0) 0 [] := World.ownsRow_nil _ _ _ _
  go_wp2_with (at_builtin; refine wpList_app rfl _ _ 59 rfl w.heap.size 3 i (.int .i64 0) 8 Try.underlying59 hi hz0 hz1 hz2 rfl (.slice none 0 0) 0 [] rfl ho0 (w.heap.size + 1) (some ⟨w.heap.size, 0, none⟩) 1 1 [.int .i64 2] rfl hlit rfl (by intro u hu; simp at hu; subst hu; rfl) (by omega) (by omega) (by simp) ?_; intro v2 w2 hown2 hg2 hat2)
  have hown := Lib.hid hown2
  have hgr := Lib.hid hg2
  clear hown2 hg2 hat2 hlit ho0
  rw [rounds_succ]
  go_wp2
  try rw [Exit.noGoto_ret]
  go_ret
  obtain ⟨g, cap, e1, hg, hlt2⟩ := hown.out.form (by omega)
  subst e1
  refine ⟨g, cap, rfl, (hown.out.cellAt 0 (by simp)).trans (by simp), fun S => ?_⟩
  have hbel : Below w.heap.size w w2 := app_below (e := 3) (w := w.alloc (.cells #[.int .i64 2] 3)) ((Below.refl _ _).alloc (Nat.le_refl _) _) (World.ownsRow_nil _ _ _ _) hgr.out (by simp)
  exact ⟨hbel.size, fun k hk _ => hbel.block k hk, hbel.os, hbel.tape, hbel.output⟩
end Go.Proofs.Ythleddflihidcaa.onI
