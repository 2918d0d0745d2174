/-
  Two numbers that came in as an array.
-/
import Derived.Test.YtgcdhfpbmcfedaaGreatDoorV7
set_option linter.unusedVariables false
set_option maxRecDepth 100000
namespace Go.Proofs.YtgcdhfpbmcfedaaGreatDoor.rwl
open Go Go.RowKit Go.WideShapes Go.ChangeShapes Go.Lib Go.Proofs.YtgcdhfpbmcfedaaGreatDoor.pf Go.Proofs.YtgcdhfpbmcfedaaGreatDoor.oc
variable {H : Type} {enc : TypeId × Value → H} {W : World}
theorem okWide_arr {P : Program} {w : World} {r : Reach} {base : Nat} {t e : TypeId} {n : Nat} {v : Value} (ht : P.underlying t = some (.array n e)) (h : Value.okWide P w r base t v) : ∃ cs, v = .agg cs ∧ cs.size = P.cellsOf t := by
  simp only [Value.okWide, ht] at h
  obtain ⟨cs, h1, h2, _⟩ := h
  exact ⟨cs, h1, h2⟩
theorem open_ints2 {r : Reach} {b0 : Nat} {v : Value} {d : DataW H} {p : List MemPlace} (hv : Value.okWide Tryz.prog W r b0 25 v) (h : DataW.Trod enc Tryz.prog W 0 (fun _ => true) true 25 v d p) :
    ∃ i j : Int, (-9223372036854775808 ≤ i ∧ i ≤ 9223372036854775807) ∧ (-9223372036854775808 ≤ j ∧ j ≤ 9223372036854775807) ∧ v = .agg #[.int .i64 i, .int .i64 j] := by
  obtain ⟨cs, rfl, hsz⟩ := okWide_arr (n := 2) (e := 3) (by kernel_rfl) hv
  obtain ⟨fuel, hf⟩ := h
  obtain ⟨h1, h2⟩ := flat.kinds_fit 4 25 [.int .i64, .int .i64] fuel cs.toList _ (by kernel_rfl) hf
  obtain ⟨v0, g0, i, rfl, w0⟩ := h2 0 (.int .i64) rfl
  obtain ⟨v1, g1, j, rfl, w1⟩ := h2 1 (.int .i64) rfl
  have b0 := wf_i64 i w0
  have b1 := wf_i64 j w1
  refine ⟨i, j, by omega, by omega, ?_⟩
  obtain ⟨l⟩ := cs
  match l, h1, g0, g1 with
  | [x, y], _, g0, g1 =>
    simp at g0 g1
    rw [g0, g1]
end Go.Proofs.YtgcdhfpbmcfedaaGreatDoor.rwl
