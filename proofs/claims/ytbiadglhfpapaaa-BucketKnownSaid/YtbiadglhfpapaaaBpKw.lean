/-
  BucketKnown, as its frame wants it.
-/
import Derived.Test.YtbiadglhfpapaaaBpK
set_option linter.unusedVariables false
namespace Go.Proofs.Ytbiadglhfpapaaa.oc
open Go.RowKit Go.Proofs.Ytbiadglhfpapaaa.mz Go.Proofs.Ytbiadglhfpapaaa.bk Go.Proofs.Ytbiadglhfpapaaa.bp
theorem walk_bucketKnown (W : World) : Calls Try.prog 9 #[] W fun e W' => e = .returned (.bool true) ∧ Below W.heap.size W W' :=
  (known_walk W).mono fun e W' ⟨he, hk⟩ => ⟨he, (hk (fun _ => False)).below⟩
end Go.Proofs.Ytbiadglhfpapaaa.oc
