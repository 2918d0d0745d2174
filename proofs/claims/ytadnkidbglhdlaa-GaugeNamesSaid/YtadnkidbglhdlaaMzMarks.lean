/-
  NewNotes, Marks; what tells a gate.
-/
import Derived.Test.YtadnkidbglhdlaaMzNotes
import Derived.Lib.SliceRun
import Derived.WalkSpells
namespace Go.Proofs.Ytadnkidbglhdlaa.mz
open Go.RowKit Go.Proofs.Ytadnkidbglhdlaa.oc
set_option maxHeartbeats 1000000 in
theorem new_notes (w : World) : Calls Try.prog 9 #[] w fun e w' => e = .returned (.pointer (some ⟨w.heap.size, 0, none⟩)) ∧ NInv w' w.heap.size [] (· = w.heap.size) ∧ ∀ S, Keeps S w w' := by
  have hb := Blk.new w 69 #[.pointer (some ⟨w.heap.size, 0, none⟩), .slice none 0 0]
  have HB := Lib.hid hb
  clear hb
  go_enter Try.func9, Try.ntmps9
  go_wp2
  go_ret
  refine ⟨rfl, ⟨⟨none, 0, HB.out, World.ownsRow_nil _ _ _ _, (fun b hb => by cases hb), fun _ => ⟨rfl, rfl⟩⟩, rfl, fun b e => by subst e; exact ⟨Nat.le_refl _, HB.out.lt⟩⟩, fun S => (Keeps.refl S w).alloc _⟩
set_option maxRecDepth 100000 in
set_option maxHeartbeats 1000000 in
theorem clone_marks (B : Nat) (A : Option Addr) (c : Nat) (ms : List (Nat × Nat)) (w : World) (h : Rd w B A (flat2 ms)) (hl : ms.length < 1000000) (hne : ms ≠ []) :
    Calls Try.prog 26 #[.slice A ms.length c] w fun e w' => ∃ A' c', e = .returned (.slice A' ms.length c') ∧ IsMarks w' w'.heap.size (.slice A' ms.length c') ms ∧ ∀ S, Keeps S w w' := by
  obtain ⟨i0, hi0, hz0, hz1, hz2⟩ := info_parts mark_info
  have hpos : 0 < ms.length := by cases ms with | nil => exact absurd rfl hne | cons x r => simp
  have hf2 : (flat2 ms).length = ms.length * 2 := by
    clear h hl hne hpos
    induction ms with
    | nil => rfl
    | cons x r ih => obtain ⟨a, b⟩ := x; simp [flat2, ih]; omega
  obtain ⟨ad, rfl, hsrc⟩ := h.src (by omega)
  have hone : ∀ u ∈ flat2 ms, u.oneCell' = true := by
    clear h hl hne hpos hf2 hsrc
    induction ms with
    | nil => intro u hu; simp [flat2] at hu
    | cons x r ih =>
      obtain ⟨a, b⟩ := x
      intro u hu
      simp only [flat2, List.mem_cons] at hu
      rcases hu with rfl | rfl | hu
      · rfl
      · rfl
      · exact ih u hu
  have hown : (w.alloc (.cells #[] 66)).ownsRow w.heap.size 66 2 (.slice (some ⟨w.heap.size, 0, none⟩) 0 0) 0 [] := World.ownsRow_made w #[] 0 (Nat.le_refl _) (by unfold maxLen; omega) (by simp)
  have hsrc' : ∀ (j : Nat) (u : Value), (flat2 ms)[j]? = some u → (w.alloc (.cells #[] 66)).cell? (ad.add j) = some u := fun j u hu => by
    have h1 := hsrc j u hu
    exact (World.cell?_alloc_lt w _ _ (World.block_lt_of_cell? w _ h1)).trans h1
  have HS := Lib.hid hsrc'
  have HO := Lib.hid hown
  have H1 := Lib.hid hone
  have HL := Lib.hid hf2
  have n1 : 0 + ms.length ≤ maxLen := by unfold maxLen; omega
  have n2 : (0 + ms.length) * 16 ≤ 140737488355328 := by omega
  have hb : w.heap.size ≤ (w.alloc (.cells #[] 66)).heap.size := Nat.le_of_lt (size_alloc w _)
  have HB := Lib.hid hb
  clear hsrc' hown hone hf2 hsrc h hne hb
  have q48 : ∀ (w : World) (a : Option Addr) (n c n' c' : Nat), (binOp .eql 36 (.slice a n c) (.slice none n' c')).run Try.prog w = .ok (.bool a.isNone) w := fun w a n c n' c' => Lib.run_eql_slice_nil w _ _ a n c n' c' Try.underlying36
  go_enter Try.func26, Try.ntmps26
  go_wp2_with ((at_builtin; refine wpList_apps rfl _ _ 36 rfl w.heap.size 66 i0 _ 2 16 Try.underlying36 hi0 hz0 hz1 hz2 rfl (by decide) (.slice (some ⟨w.heap.size, 0, none⟩) 0 0) 0 [] rfl HO.out ad ms.length c (flat2 ms) rfl HL.out HS.out H1.out n1 n2 HB.out ?_; intro v2 w9 hown2 hg2 hat2; have HO2 := Lib.hid hown2; have HG2 := Lib.hid hg2; clear hown2 hg2 hat2))
  go_ret
  obtain ⟨A', c', e, hr⟩ := rd_of_row (show w9.ownsRow w.heap.size 66 2 v2 ms.length (flat2 ms) by have := HO2.out; simpa using this)
  refine ⟨A', c', by rw [e]; rfl, ⟨A', c', rfl, hr⟩, fun S => ?_⟩
  have hg := HG2.out
  have h1 : (w.alloc (.cells #[] 66)).heap.size = w.heap.size + 1 := by show (w.heap.push _).size = _; simp
  refine ⟨by have := hg.size; omega, fun b hb _ => ?_, hg.os, hg.tape, hg.output⟩
  rw [hg.block b (by omega) (fun e => by injection e with e; exact absurd e (Nat.ne_of_lt hb)), Below.heap_alloc w _ b hb]
set_option maxRecDepth 100000 in
set_option maxHeartbeats 1000000 in
theorem marks_notes (N : Nat) (w : World) (ms : List (Nat × Nat)) (F : Nat → Prop) (h : NInv w N ms F) (hl : ms.length < 1000000) (hne : ms ≠ []) :
    Calls Try.prog 12 #[.pointer (some ⟨N, 0, none⟩)] w fun e w' => ∃ A' c', e = .returned (.slice A' ms.length c') ∧ IsMarks w' w'.heap.size (.slice A' ms.length c') ms ∧ ∀ S, Keeps S w w' := by
  obtain ⟨mA, mc, hb, hr0, hf, _⟩ := h.at_
  obtain ⟨A', c', e, hrd⟩ := rd_of_row hr0
  injection e with e1 e2 e3
  subst e1; subst e3
  have p0 : w.cell? ⟨N, 0, none⟩ = some (.pointer (some ⟨N, 0, none⟩)) := by rw [hb.cell]; rfl
  have p1 : w.cell? ⟨N, 1, none⟩ = some (.slice mA ms.length mc) := by rw [hb.cell]; rfl
  have HC := Lib.hid (clone_marks w.heap.size mA mc ms w hrd hl hne)
  have hns := notes_self
  clear hb hr0 hf hrd h
  go_enter Try.func12, Try.ntmps12
  go_wp2_with (go_at_call 26; refine HC.out.mono ?_; rintro e w' ⟨A', c', rfl, hm, hk⟩; have HM := Lib.hid hm; have HK := Lib.hid hk; clear hm hk)
  go_ret
  exact ⟨A', c', rfl, HM.out, HK.out⟩
end Go.Proofs.Ytadnkidbglhdlaa.mz
