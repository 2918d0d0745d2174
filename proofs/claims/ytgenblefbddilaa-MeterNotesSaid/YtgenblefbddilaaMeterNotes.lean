/-
  MeterNotes: for every input the law returns true and every argument reads afterwards as it read before. No condition but the form's own reach.
-/
import Derived.Test.YtgenblefbddilaaRows
import Derived.Test.YtgenblefbddilaaOcRecs
import Derived.Test.YtgenblefbddilaaMtLaw
import Derived.ShutString
import Derived.Lib.SmallJoins
import Derived.ChangeOld
namespace Go.Proofs.Ytgenblefbddilaa.meterNotes
open Go.ChangeShapes Go.WideShapes Go.ChangeAt Go.RowKit Go.Proofs.Ytgenblefbddilaa.oc
open Go.ChangeMaps (open_string shut_string)
set_option linter.unusedVariables false

theorem own : ownKnob Try.prog.godebug = none := by kernel_rfl
theorem laidOut : laidOutB Try.prog = true := by kernel_rfl

set_option maxRecDepth 100000 in
theorem lifted (os : Os) (started : os.Started) (H : Type) (enc : TypeId × Value → H) :
    ReturnsInHanded {} Try.checked os 3 .any (Rows.meterNotesSpec.pre6 enc Try.prog Try.f3 Rows.meterNotesRow.domain false) (Rows.meterNotesSpec.post enc Try.prog Try.f3 false true false false) := by
  refine returnsInHanded_of_change_sized (C := Try.checked) own started (by kernel_rfl) Try.func3
    (ChangeSpec.witness6 (enc := enc) (C := Try.checked) false ⟨#[], #[.agg #[.int .u64 0, .int .u64 0, .int .u64 0], .slice none 0 0], []⟩ 8 (by kernel_rfl) (by kernel_rfl) (by kernel_rfl) (by kernel_rfl)) ?_
  intro W base args ds gs before hval0 hW hcnd hsz0 _
  have hval : ∀ (j : Nat) t v, Try.f3.params[j]? = some t → args[j]? = some v → Value.okWide Try.prog W .any base t v := hval0
  have hsz : (DataW.weightsEach Try.prog (Try.f3.params.toList ++ Rows.meterNotesSpec.plain.varTypes Try.prog) (ds ++ gs)).all (· ≤ reachBytes) = true := hsz0
  have hW' := hW
  obtain ⟨p, q, hA0, hV, rfl, hfz, hnd⟩ := hW
  have hA : DataW.TrodAll enc Try.prog W 0 (fun _ => true) true Try.f3.params.toList args.toList ds p := hA0
  rw [Try.params3] at hA hval hsz
  obtain ⟨v0, vs0, d0, ds0, p0, q0, hargs, rfl, rfl, h0, r0⟩ := trodAll_cons hA
  obtain ⟨v1, vs1, d1, ds1, p1, q1, rfl, rfl, rfl, h1, r1⟩ := trodAll_cons r0
  obtain ⟨rfl, rfl, rfl⟩ := trodAll_nil r1
  obtain rfl : args = #[v0, v1] := by cases args; simp_all
  obtain ⟨rfl, rfl⟩ := trodVars_none hV
  have k0 := h0
  have lt0 : ∀ x ∈ p0, x.block < W.heap.size := by obtain ⟨m, hm⟩ := k0; exact DataW.trod_lt m _ _ _ hm
  obtain ⟨f00, f01, f02, y00, y01, y02, nf0, rfl, rfl, rfl, g00, g01, g02⟩ := Go.Joins.open_agg3 Try.underlying24 (by kernel_rfl) (by kernel_rfl) (hval 0 24 v0 rfl rfl) h0
  obtain ⟨d00, e00, _, u00⟩ := DataW.trod_int Try.underlying22 g00
  obtain rfl : f00 = .int .u64 d00 := by simpa using e00
  have b00 := wf_u64 d00 u00
  obtain ⟨n00, rfl⟩ := Int.eq_ofNat_of_zero_le b00.1
  have c00 : n00 < 18446744073709551616 := by omega
  obtain ⟨d01, e01, _, u01⟩ := DataW.trod_int Try.underlying22 g01
  obtain rfl : f01 = .int .u64 d01 := by simpa using e01
  have b01 := wf_u64 d01 u01
  obtain ⟨n01, rfl⟩ := Int.eq_ofNat_of_zero_le b01.1
  have c01 : n01 < 18446744073709551616 := by omega
  obtain ⟨d02, e02, _, u02⟩ := DataW.trod_int Try.underlying22 g02
  obtain rfl : f02 = .int .u64 d02 := by simpa using e02
  have b02 := wf_u64 d02 u02
  obtain ⟨n02, rfl⟩ := Int.eq_ofNat_of_zero_le b02.1
  have c02 : n02 < 18446744073709551616 := by omega
  obtain ⟨a1, len1, cap1, rfl⟩ := okWide_slice Try.underlying25 (hval 1 25 v1 rfl rfl)
  have k1 := h1
  have lt1 : ∀ x ∈ p1, x.block < W.heap.size := by obtain ⟨m, hm⟩ := k1; exact DataW.trod_lt m _ _ _ hm
  obtain ⟨l1, w1, _, e1⟩ := open_recs (ks := [.i64, .u64, .u64]) Try.underlying25 Try.underlying43 (by kernel_rfl) (by decide) (by kernel_rfl) (fun j f k hf hk => by
    match j, hf, hk with
    | 0, hf, hk => simp at hf hk; subst hf; subst hk; exact ⟨rfl, by kernel_rfl, by kernel_rfl⟩
    | 1, hf, hk => simp at hf hk; subst hf; subst hk; exact ⟨rfl, by kernel_rfl, by kernel_rfl⟩
    | 2, hf, hk => simp at hf hk; subst hf; subst hk; exact ⟨rfl, by kernel_rfl, by kernel_rfl⟩
    | j + 3, _, hk => simp at hk) h1
  have z1 := reach_nums hsz (j := 1) rfl rfl Try.underlying25 (b := 24) (by kernel_rfl) (by decide) e1
  clear hA0 hval0
  refine (walk_meterNotes W n00 n01 n02 c00 c01 c02 a1 len1 cap1 l1 w1 (by omega)).mono fun e W' ⟨he, bel⟩ => ?_
  subst he
  exact ⟨_, rfl, _, _, _, [], _, [], hW', trodAll_mk1 (shut_bool Try.underlying4 _), (trodAll_cons_mk (Below.trod laidOut (by kernel_rfl) (of_decide_eq_true (by kernel_rfl)) k0 bel lt0) (trodAll_cons_mk (Below.trod laidOut (by kernel_rfl) (of_decide_eq_true (by kernel_rfl)) k1 bel lt1) trodAll_mk0)), rfl, bel.frame _, fun h => by cases h⟩

theorem over : Rows.meterNotesRow.holds Try.pinned (OpenSpec.ofChange Rows.meterNotesSpec) :=
  OpenClaim.holds_of_wide 3 Try.f3 rfl rfl rfl rfl rfl rfl rfl ⟨rfl, rfl, rfl, rfl, rfl⟩ rfl rfl rfl rfl rfl (by kernel_rfl) Try.func3 (by kernel_rfl)
    (of_decide_eq_true (by kernel_rfl)) (by unfold Func.isWrapper; first | (rw [if_pos (by decide +kernel)]; kernel_rfl) | (rw [if_neg (by decide +kernel)]; exact ⟨rfl, rfl⟩))
    (fun os started H enc _ => lifted os started H enc)

theorem proved : Rows.MeterNotesSaid := over
#print axioms proved
end Go.Proofs.Ytgenblefbddilaa.meterNotes
