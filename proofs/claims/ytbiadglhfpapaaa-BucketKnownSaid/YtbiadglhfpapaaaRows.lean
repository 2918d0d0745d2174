/-
  No cell of these rows narrows 'for every input' (looked for: loops, veiled, ifaces, maps, wideKeys, modest, calm, conditions, laid).
  DERIVED. THE GIVEN ROWS OF THIS SEAT. 7 by the template 'for every input the law returns true; each argument reads behind the call as it read before'; 0 by the template 'total and deterministic' (their statements: YtbiadglhfpapaaaTotals.lean).
  GIVEN WITH THE SEED: the statements are not yours to turn. If you find one false, say at which input.
  Laid BY PROGRAM, IN A SANDBOX (cutbox-rows.mjs): the forced cells as the released guide's own fill.sh prints them over the translation 338c0e3636482482… (all of the seat's roots in one cut). By AI agents, Wed Nov 11 2026. No macro, syntax, notation, axiom, sorry.
-/
import Derived.Test.YtbiadglhfpapaaaChecked
import GoSem.Claim
import GoSem.ClaimJoined
import GoSem.ClaimMapViews
import Derived.JoinedTies
import Derived.KernelRfl
namespace Go.Proofs.Ytbiadglhfpapaaa
/- THE CELL 'sum', in the pinned program and in every row, IS THE sha256 OF THE DUMP (.gsa) THAT YtbiadglhfpapaaaProg.lean LOADS. Nothing in Lean hashes anything: it is a label: what it is worth is what the hold of that sum in a sandbox is worth. -/
noncomputable def Try.pinned : Pinned := { name := "ytbiadglhfpapaaa", sum := "338c0e3636482482e54e3a38cba89d8bf7166df2e0564ef66c9b9f29d028a0bb", checked := Try.checked }
namespace Rows
def none {H : Type} : Left H := { results := [], args := [] }

/-- 'patchbaylaw12.BucketTells': WHATEVER THE INPUT: true; the input reads as it did. -/
def bucketTellsSpec : ChangeSpec := { name := "bucketTells", fn := fun _ => fun
  | [d1, d2] => { results := [.lit (.bool true)], args := [d1, d2] }
  | _ => none }
def bucketTellsRow : OpenClaim := { program := "ytbiadglhfpapaaa", sum := "338c0e3636482482e54e3a38cba89d8bf7166df2e0564ef66c9b9f29d028a0bb", func := "patchbay/patchbaylaw12.BucketTells", spec := "bucketTells", inPlace := ["math/bits.Add64"], unfollowed := true, recurses := true, apart := false }
def BucketTellsSaid : Prop := bucketTellsRow.holds Try.pinned (OpenSpec.ofChange bucketTellsSpec)

/-- ITS FALSE NEIGHBOUR: 'it returns false'. Refute it at one input. -/
def bucketTellsWrong : ChangeSpec := { name := "bucketTells", fn := fun _ => fun
  | [d1, d2] => { results := [.lit (.bool false)], args := [d1, d2] }
  | _ => none }
def BucketTellsWrongFalsely : Prop := bucketTellsRow.holds Try.pinned (OpenSpec.ofChange bucketTellsWrong)

/-- 'patchbaylaw12.BucketRuns': WHATEVER THE INPUT: true; the input reads as it did. -/
def bucketRunsSpec : ChangeSpec := { name := "bucketRuns", fn := fun _ => fun
  | [d1, d2] => { results := [.lit (.bool true)], args := [d1, d2] }
  | _ => none }
def bucketRunsRow : OpenClaim := { program := "ytbiadglhfpapaaa", sum := "338c0e3636482482e54e3a38cba89d8bf7166df2e0564ef66c9b9f29d028a0bb", func := "patchbay/patchbaylaw12.BucketRuns", spec := "bucketRuns", inPlace := ["math/bits.Add64"], unfollowed := true, recurses := true, apart := false }
def BucketRunsSaid : Prop := bucketRunsRow.holds Try.pinned (OpenSpec.ofChange bucketRunsSpec)

/-- ITS FALSE NEIGHBOUR: 'it returns false'. Refute it at one input. -/
def bucketRunsWrong : ChangeSpec := { name := "bucketRuns", fn := fun _ => fun
  | [d1, d2] => { results := [.lit (.bool false)], args := [d1, d2] }
  | _ => none }
def BucketRunsWrongFalsely : Prop := bucketRunsRow.holds Try.pinned (OpenSpec.ofChange bucketRunsWrong)

/-- 'patchbaylaw12.BucketWhen': WHATEVER THE INPUT: true; the input reads as it did. -/
def bucketWhenSpec : ChangeSpec := { name := "bucketWhen", fn := fun _ => fun
  | [d1, d2, d3] => { results := [.lit (.bool true)], args := [d1, d2, d3] }
  | _ => none }
def bucketWhenRow : OpenClaim := { program := "ytbiadglhfpapaaa", sum := "338c0e3636482482e54e3a38cba89d8bf7166df2e0564ef66c9b9f29d028a0bb", func := "patchbay/patchbaylaw12.BucketWhen", spec := "bucketWhen", inPlace := ["math/bits.Add64"], unfollowed := true, recurses := true, apart := false }
def BucketWhenSaid : Prop := bucketWhenRow.holds Try.pinned (OpenSpec.ofChange bucketWhenSpec)

/-- ITS FALSE NEIGHBOUR: 'it returns false'. Refute it at one input. -/
def bucketWhenWrong : ChangeSpec := { name := "bucketWhen", fn := fun _ => fun
  | [d1, d2, d3] => { results := [.lit (.bool false)], args := [d1, d2, d3] }
  | _ => none }
def BucketWhenWrongFalsely : Prop := bucketWhenRow.holds Try.pinned (OpenSpec.ofChange bucketWhenWrong)

/-- 'patchbaylaw12.BucketNever': WHATEVER THE INPUT: true; the input reads as it did. -/
def bucketNeverSpec : ChangeSpec := { name := "bucketNever", fn := fun _ => fun
  | [d1, d2, d3] => { results := [.lit (.bool true)], args := [d1, d2, d3] }
  | _ => none }
def bucketNeverRow : OpenClaim := { program := "ytbiadglhfpapaaa", sum := "338c0e3636482482e54e3a38cba89d8bf7166df2e0564ef66c9b9f29d028a0bb", func := "patchbay/patchbaylaw12.BucketNever", spec := "bucketNever", inPlace := ["math/bits.Add64"], unfollowed := true, recurses := true, apart := false }
def BucketNeverSaid : Prop := bucketNeverRow.holds Try.pinned (OpenSpec.ofChange bucketNeverSpec)

/-- ITS FALSE NEIGHBOUR: 'it returns false'. Refute it at one input. -/
def bucketNeverWrong : ChangeSpec := { name := "bucketNever", fn := fun _ => fun
  | [d1, d2, d3] => { results := [.lit (.bool false)], args := [d1, d2, d3] }
  | _ => none }
def BucketNeverWrongFalsely : Prop := bucketNeverRow.holds Try.pinned (OpenSpec.ofChange bucketNeverWrong)

/-- 'patchbaylaw12.BucketMost': WHATEVER THE INPUT: true; the input reads as it did. -/
def bucketMostSpec : ChangeSpec := { name := "bucketMost", fn := fun _ => fun
  | [d1, d2, d3] => { results := [.lit (.bool true)], args := [d1, d2, d3] }
  | _ => none }
def bucketMostRow : OpenClaim := { program := "ytbiadglhfpapaaa", sum := "338c0e3636482482e54e3a38cba89d8bf7166df2e0564ef66c9b9f29d028a0bb", func := "patchbay/patchbaylaw12.BucketMost", spec := "bucketMost", inPlace := ["math/bits.Add64"], unfollowed := true, recurses := true, apart := false }
def BucketMostSaid : Prop := bucketMostRow.holds Try.pinned (OpenSpec.ofChange bucketMostSpec)

/-- ITS FALSE NEIGHBOUR: 'it returns false'. Refute it at one input. -/
def bucketMostWrong : ChangeSpec := { name := "bucketMost", fn := fun _ => fun
  | [d1, d2, d3] => { results := [.lit (.bool false)], args := [d1, d2, d3] }
  | _ => none }
def BucketMostWrongFalsely : Prop := bucketMostRow.holds Try.pinned (OpenSpec.ofChange bucketMostWrong)

/-- 'patchbaylaw12.BucketAll': WHATEVER THE INPUT: true; the input reads as it did. -/
def bucketAllSpec : ChangeSpec := { name := "bucketAll", fn := fun _ => fun
  | [d1, d2] => { results := [.lit (.bool true)], args := [d1, d2] }
  | _ => none }
def bucketAllRow : OpenClaim := { program := "ytbiadglhfpapaaa", sum := "338c0e3636482482e54e3a38cba89d8bf7166df2e0564ef66c9b9f29d028a0bb", func := "patchbay/patchbaylaw12.BucketAll", spec := "bucketAll", inPlace := ["math/bits.Add64"], unfollowed := true, recurses := true, apart := false }
def BucketAllSaid : Prop := bucketAllRow.holds Try.pinned (OpenSpec.ofChange bucketAllSpec)

/-- ITS FALSE NEIGHBOUR: 'it returns false'. Refute it at one input. -/
def bucketAllWrong : ChangeSpec := { name := "bucketAll", fn := fun _ => fun
  | [d1, d2] => { results := [.lit (.bool false)], args := [d1, d2] }
  | _ => none }
def BucketAllWrongFalsely : Prop := bucketAllRow.holds Try.pinned (OpenSpec.ofChange bucketAllWrong)

/-- 'patchbaylaw12.BucketKnown': WHATEVER THE INPUT: true; the input reads as it did. -/
def bucketKnownSpec : ChangeSpec := { name := "bucketKnown", fn := fun _ => fun
  | [] => { results := [.lit (.bool true)], args := [] }
  | _ => none }
def bucketKnownRow : OpenClaim := { program := "ytbiadglhfpapaaa", sum := "338c0e3636482482e54e3a38cba89d8bf7166df2e0564ef66c9b9f29d028a0bb", func := "patchbay/patchbaylaw12.BucketKnown", spec := "bucketKnown", inPlace := ["math/bits.Add64"], unfollowed := true, recurses := true, apart := false }
def BucketKnownSaid : Prop := bucketKnownRow.holds Try.pinned (OpenSpec.ofChange bucketKnownSpec)

/-- ITS FALSE NEIGHBOUR: 'it returns false'. Refute it at one input. -/
def bucketKnownWrong : ChangeSpec := { name := "bucketKnown", fn := fun _ => fun
  | [] => { results := [.lit (.bool false)], args := [] }
  | _ => none }
def BucketKnownWrongFalsely : Prop := bucketKnownRow.holds Try.pinned (OpenSpec.ofChange bucketKnownWrong)

/- THE SECOND FORM. 'bulk': how many values and letters a reading holds, each counted each time it is reached (what is shared counts as often as it is met; a slice's spare places count too). A statement '..UptoSaid' is the law's where the arguments, and the package variables that the reading takes, are together of bulk at most 1048576: NARROWER than '..Said'. Prove '..Said' where nothing that the law and all that it calls make is longer than what came in: it says more and counts as full. Else prove '..UptoSaid'. A law counts once. -/
mutual
def uptoBulk {H : Type} : DataW H → Nat
  | .lit (.string bytes) => bytes.length + 1
  | .lit _ => 1
  | .nil => 1
  | .ptr d => uptoBulk d + 1
  | .slice elems spare => uptoBulkAll elems + uptoBulkAll spare + 1
  | .agg parts => uptoBulkAll parts + 1
  | .iface _ d => uptoBulk d + 1
  | .map entries => uptoBulkEntries entries + 1
  | .held _ => 1
def uptoBulkAll {H : Type} : List (DataW H) → Nat
  | [] => 0
  | d :: r => uptoBulk d + uptoBulkAll r
def uptoBulkEntries {H : Type} : List (Lit × DataW H) → Nat
  | [] => 0
  | x :: r => uptoBulkEntry x + uptoBulkEntries r
def uptoBulkEntry {H : Type} : Lit × DataW H → Nat
  | (.string bytes, d) => bytes.length + uptoBulk d + 1
  | (_, d) => uptoBulk d + 1
 end
def uptoSmall : (H : Type) → List (DataW H) → Bool := fun _ ds => decide (uptoBulkAll ds ≤ 1048576)
def OpenSpec.upto (s : _root_.Go.ChangeSpec) : _root_.Go.OpenSpec := { _root_.Go.OpenSpec.ofChange s with cond := some uptoSmall }

/-- 'patchbaylaw12.BucketTells', WHERE WHAT IT READS IS OF BULK AT MOST 1048576: true; the input reads as it did. -/
def bucketTellsUptoRow : OpenClaim := { program := "ytbiadglhfpapaaa", sum := "338c0e3636482482e54e3a38cba89d8bf7166df2e0564ef66c9b9f29d028a0bb", func := "patchbay/patchbaylaw12.BucketTells", spec := "bucketTells", inPlace := ["math/bits.Add64"], unfollowed := true, recurses := true, apart := false, narrowed := true }
def BucketTellsUptoSaid : Prop := bucketTellsUptoRow.holds Try.pinned (OpenSpec.upto bucketTellsSpec)

/-- 'patchbaylaw12.BucketRuns', WHERE WHAT IT READS IS OF BULK AT MOST 1048576: true; the input reads as it did. -/
def bucketRunsUptoRow : OpenClaim := { program := "ytbiadglhfpapaaa", sum := "338c0e3636482482e54e3a38cba89d8bf7166df2e0564ef66c9b9f29d028a0bb", func := "patchbay/patchbaylaw12.BucketRuns", spec := "bucketRuns", inPlace := ["math/bits.Add64"], unfollowed := true, recurses := true, apart := false, narrowed := true }
def BucketRunsUptoSaid : Prop := bucketRunsUptoRow.holds Try.pinned (OpenSpec.upto bucketRunsSpec)

/-- 'patchbaylaw12.BucketWhen', WHERE WHAT IT READS IS OF BULK AT MOST 1048576: true; the input reads as it did. -/
def bucketWhenUptoRow : OpenClaim := { program := "ytbiadglhfpapaaa", sum := "338c0e3636482482e54e3a38cba89d8bf7166df2e0564ef66c9b9f29d028a0bb", func := "patchbay/patchbaylaw12.BucketWhen", spec := "bucketWhen", inPlace := ["math/bits.Add64"], unfollowed := true, recurses := true, apart := false, narrowed := true }
def BucketWhenUptoSaid : Prop := bucketWhenUptoRow.holds Try.pinned (OpenSpec.upto bucketWhenSpec)

/-- 'patchbaylaw12.BucketNever', WHERE WHAT IT READS IS OF BULK AT MOST 1048576: true; the input reads as it did. -/
def bucketNeverUptoRow : OpenClaim := { program := "ytbiadglhfpapaaa", sum := "338c0e3636482482e54e3a38cba89d8bf7166df2e0564ef66c9b9f29d028a0bb", func := "patchbay/patchbaylaw12.BucketNever", spec := "bucketNever", inPlace := ["math/bits.Add64"], unfollowed := true, recurses := true, apart := false, narrowed := true }
def BucketNeverUptoSaid : Prop := bucketNeverUptoRow.holds Try.pinned (OpenSpec.upto bucketNeverSpec)

/-- 'patchbaylaw12.BucketMost', WHERE WHAT IT READS IS OF BULK AT MOST 1048576: true; the input reads as it did. -/
def bucketMostUptoRow : OpenClaim := { program := "ytbiadglhfpapaaa", sum := "338c0e3636482482e54e3a38cba89d8bf7166df2e0564ef66c9b9f29d028a0bb", func := "patchbay/patchbaylaw12.BucketMost", spec := "bucketMost", inPlace := ["math/bits.Add64"], unfollowed := true, recurses := true, apart := false, narrowed := true }
def BucketMostUptoSaid : Prop := bucketMostUptoRow.holds Try.pinned (OpenSpec.upto bucketMostSpec)

/-- 'patchbaylaw12.BucketAll', WHERE WHAT IT READS IS OF BULK AT MOST 1048576: true; the input reads as it did. -/
def bucketAllUptoRow : OpenClaim := { program := "ytbiadglhfpapaaa", sum := "338c0e3636482482e54e3a38cba89d8bf7166df2e0564ef66c9b9f29d028a0bb", func := "patchbay/patchbaylaw12.BucketAll", spec := "bucketAll", inPlace := ["math/bits.Add64"], unfollowed := true, recurses := true, apart := false, narrowed := true }
def BucketAllUptoSaid : Prop := bucketAllUptoRow.holds Try.pinned (OpenSpec.upto bucketAllSpec)

/-- 'patchbaylaw12.BucketKnown', WHERE WHAT IT READS IS OF BULK AT MOST 1048576: true; the input reads as it did. -/
def bucketKnownUptoRow : OpenClaim := { program := "ytbiadglhfpapaaa", sum := "338c0e3636482482e54e3a38cba89d8bf7166df2e0564ef66c9b9f29d028a0bb", func := "patchbay/patchbaylaw12.BucketKnown", spec := "bucketKnown", inPlace := ["math/bits.Add64"], unfollowed := true, recurses := true, apart := false, narrowed := true }
def BucketKnownUptoSaid : Prop := bucketKnownUptoRow.holds Try.pinned (OpenSpec.upto bucketKnownSpec)

end Rows
end Go.Proofs.Ytbiadglhfpapaaa
