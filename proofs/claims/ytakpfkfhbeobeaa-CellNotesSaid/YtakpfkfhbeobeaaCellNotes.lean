/-
  CellNotes: for every input the law returns true and every argument reads afterwards as it read before. No condition but the form's own reach.
-/
import Derived.Test.YtakpfkfhbeobeaaRows
import Derived.Test.YtakpfkfhbeobeaaOcQuads
import Derived.Test.YtakpfkfhbeobeaaCeLaw
import Derived.ShutString
import Derived.Lib.SmallJoins
import Derived.ChangeOld
namespace Go.Proofs.Ytakpfkfhbeobeaa.cellNotes
open Go.ChangeShapes Go.WideShapes Go.ChangeAt Go.RowKit Go.Proofs.Ytakpfkfhbeobeaa.oc Go.Proofs.Ytakpfkfhbeobeaa.ce
open Go.ChangeMaps (open_string shut_string)
set_option linter.unusedVariables false

theorem own : ownKnob Try.prog.godebug = none := by kernel_rfl
theorem laidOut : laidOutB Try.prog = true := by kernel_rfl

set_option maxRecDepth 100000 in
theorem lifted (os : Os) (started : os.Started) (H : Type) (enc : TypeId × Value → H) :
    ReturnsInHanded {} Try.checked os 3 .any (Rows.cellNotesSpec.pre6 enc Try.prog Try.f3 Rows.cellNotesRow.domain false) (Rows.cellNotesSpec.post enc Try.prog Try.f3 false true false false) := by
  refine returnsInHanded_of_change_sized (C := Try.checked) own started (by kernel_rfl) Try.func3
    (ChangeSpec.witness6 (enc := enc) (C := Try.checked) false ⟨#[], #[.agg #[.int .u64 0, .int .u32 0, .slice none 0 0]], []⟩ 8 (by kernel_rfl) (by kernel_rfl) (by kernel_rfl) (by kernel_rfl)) ?_
  intro W base args ds gs before hval0 hW hcnd hsz0 _
  have hval : ∀ (j : Nat) t v, Try.f3.params[j]? = some t → args[j]? = some v → Value.okWide Try.prog W .any base t v := hval0
  have hsz : (DataW.weightsEach Try.prog (Try.f3.params.toList ++ Rows.cellNotesSpec.plain.varTypes Try.prog) (ds ++ gs)).all (· ≤ reachBytes) = true := hsz0
  have hW' := hW
  obtain ⟨p, q, hA0, hV, rfl, hfz, hnd⟩ := hW
  have hA : DataW.TrodAll enc Try.prog W 0 (fun _ => true) true Try.f3.params.toList args.toList ds p := hA0
  rw [Try.params3] at hA hval hsz
  obtain ⟨v0, vs0, d0, ds0, p0, q0, hargs, rfl, rfl, h0, r0⟩ := trodAll_cons hA
  obtain ⟨rfl, rfl, rfl⟩ := trodAll_nil r0
  obtain rfl : args = #[v0] := by cases args; simp_all
  obtain ⟨rfl, rfl⟩ := trodVars_none hV
  have k0 := h0
  have lt0 : ∀ x ∈ p0, x.block < W.heap.size := by obtain ⟨m, hm⟩ := k0; exact DataW.trod_lt m _ _ _ hm
  obtain ⟨f0, f1, f2, y0, y1, y2, nf, rfl, rfl, rfl, g0, g1, g2⟩ := Go.Joins.open_agg3 Try.underlying26 (by kernel_rfl) (by kernel_rfl) (hval 0 26 v0 rfl rfl) h0
  obtain ⟨d0, e0, _, u0⟩ := DataW.trod_int Try.underlying22 g0
  obtain ⟨d1, e1, _, u1⟩ := DataW.trod_int Try.underlying23 g1
  obtain rfl : f0 = .int .u64 d0 := by simpa using e0
  obtain rfl : f1 = .int .u32 d1 := by simpa using e1
  have b0 := wf_u64 d0 u0
  have b1 := wf_u32 d1 u1
  obtain ⟨n0, rfl⟩ := Int.eq_ofNat_of_zero_le b0.1
  obtain ⟨n1, rfl⟩ := Int.eq_ofNat_of_zero_le b1.1
  have c0 : n0 < 18446744073709551616 := by omega
  have c1 : n1 < 4294967296 := by omega
  obtain ⟨AA, m0, cap0, rfl⟩ : ∃ AA m0 cap0, f2 = .slice AA m0 cap0 := by
    rcases Go.Deep.open_slice Try.underlying24 g2 with ⟨e, _⟩ | ⟨a, len, cap, m, k, D, Pl, e, _⟩
    · exact ⟨none, 0, 0, by simpa using e⟩
    · exact ⟨some a, len, cap, by simpa using e⟩
  obtain ⟨xs, hxs, hrows⟩ := open_rows Try.underlying24 (by kernel_rfl) Try.underlying39 Try.underlying47 (by kernel_rfl) rfl rfl rfl rfl (by kernel_rfl) (by kernel_rfl) (by kernel_rfl) (by kernel_rfl) (by kernel_rfl) (by kernel_rfl) (by kernel_rfl) (by kernel_rfl) g2
  clear hA0 hval0
  refine (walk_cellNotes W n0 n1 AA m0 cap0 xs c0 c1 hxs hrows).mono fun e W' ⟨he, bel⟩ => ?_
  subst he
  exact ⟨_, rfl, _, _, _, [], _, [], hW', trodAll_mk1 (shut_bool Try.underlying4 _), (trodAll_cons_mk (Below.trod laidOut (by kernel_rfl) (of_decide_eq_true (by kernel_rfl)) k0 bel lt0) trodAll_mk0), rfl, bel.frame _, fun h => by cases h⟩

theorem over : Rows.cellNotesRow.holds Try.pinned (OpenSpec.ofChange Rows.cellNotesSpec) :=
  OpenClaim.holds_of_wide 3 Try.f3 rfl rfl rfl rfl rfl rfl rfl ⟨rfl, rfl, rfl, rfl, rfl⟩ rfl rfl rfl rfl rfl (by kernel_rfl) Try.func3 (by kernel_rfl)
    (of_decide_eq_true (by kernel_rfl)) (by unfold Func.isWrapper; first | (rw [if_pos (by decide +kernel)]; kernel_rfl) | (rw [if_neg (by decide +kernel)]; exact ⟨rfl, rfl⟩))
    (fun os started H enc _ => lifted os started H enc)

theorem proved : Rows.CellNotesSaid := over
#print axioms proved
end Go.Proofs.Ytakpfkfhbeobeaa.cellNotes
