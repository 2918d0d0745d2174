/-
  GaugeNews' body.
-/
import Derived.Test.YtadnkidbglhdlaaGaN
set_option linter.unusedVariables false
namespace Go.Proofs.Ytadnkidbglhdlaa.oc
open Go.RowKit Go.Proofs.Ytadnkidbglhdlaa.mz
theorem walk_gaugeNews (w : World) (l : Nat) (hl : l < 18446744073709551616) (f : Nat) (hf : f < 18446744073709551616) (t : Nat) (ht : t < 18446744073709551616) :
    Calls Try.prog 3 #[.int .u64 (l : Int), .int .u64 (f : Int), .int .u64 (t : Int)] w fun e w' => e = .returned (.bool true) ∧ Below w.heap.size w w' :=
  (ga.news_ l f t w).mono fun e w' h => ⟨h.1, (h.2 (fun _ => False)).below⟩
end Go.Proofs.Ytadnkidbglhdlaa.oc
