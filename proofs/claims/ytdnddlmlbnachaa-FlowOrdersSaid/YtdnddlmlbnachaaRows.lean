/-
  No cell of these rows narrows 'for every input' (looked for: loops, veiled, ifaces, maps, wideKeys, modest, calm, conditions, laid).
  DERIVED. THE GIVEN ROWS OF THIS SEAT. 7 by the template 'for every input the law returns true; each argument reads behind the call as it read before'; 0 by the template 'total and deterministic' (their statements: YtdnddlmlbnachaaTotals.lean).
  GIVEN WITH THE SEED: the statements are not yours to turn. If you find one false, say at which input.
  Laid BY PROGRAM, IN A SANDBOX (cutbox-rows.mjs): the forced cells as the released guide's own fill.sh prints them over the translation db8c5d280d75ab4a… (all of the seat's roots in one cut). By AI agents, Wed Nov 11 2026. No macro, syntax, notation, axiom, sorry.
-/
import Derived.Test.YtdnddlmlbnachaaChecked
import GoSem.Claim
import GoSem.ClaimJoined
import GoSem.ClaimMapViews
import Derived.JoinedTies
import Derived.KernelRfl
namespace Go.Proofs.Ytdnddlmlbnachaa
/- THE CELL 'sum', in the pinned program and in every row, IS THE sha256 OF THE DUMP (.gsa) THAT YtdnddlmlbnachaaProg.lean LOADS. Nothing in Lean hashes anything: it is a label: what it is worth is what the hold of that sum in a sandbox is worth. -/
noncomputable def Try.pinned : Pinned := { name := "ytdnddlmlbnachaa", sum := "db8c5d280d75ab4a2fdec158efb3f40fd5556636eb14bcf450608ef41ba7c5d9", checked := Try.checked }
namespace Rows
def none {H : Type} : Left H := { results := [], args := [] }

/-- 'patchbaylaw17.FlowOf': WHATEVER THE INPUT: true; the input reads as it did. -/
def flowOfSpec : ChangeSpec := { name := "flowOf", fn := fun _ => fun
  | [d1, d2] => { results := [.lit (.bool true)], args := [d1, d2] }
  | _ => none }
def flowOfRow : OpenClaim := { program := "ytdnddlmlbnachaa", sum := "db8c5d280d75ab4a2fdec158efb3f40fd5556636eb14bcf450608ef41ba7c5d9", func := "patchbay/patchbaylaw17.FlowOf", spec := "flowOf", inPlace := ["internal/bytealg.Compare"], apart := false }
def FlowOfSaid : Prop := flowOfRow.holds Try.pinned (OpenSpec.ofChange flowOfSpec)

/-- ITS FALSE NEIGHBOUR: 'it returns false'. Refute it at one input. -/
def flowOfWrong : ChangeSpec := { name := "flowOf", fn := fun _ => fun
  | [d1, d2] => { results := [.lit (.bool false)], args := [d1, d2] }
  | _ => none }
def FlowOfWrongFalsely : Prop := flowOfRow.holds Try.pinned (OpenSpec.ofChange flowOfWrong)

/-- 'patchbaylaw17.FlowHashes': WHATEVER THE INPUT: true; the input reads as it did. -/
def flowHashesSpec : ChangeSpec := { name := "flowHashes", fn := fun _ => fun
  | [d] => { results := [.lit (.bool true)], args := [d] }
  | _ => none }
def flowHashesRow : OpenClaim := { program := "ytdnddlmlbnachaa", sum := "db8c5d280d75ab4a2fdec158efb3f40fd5556636eb14bcf450608ef41ba7c5d9", func := "patchbay/patchbaylaw17.FlowHashes", spec := "flowHashes", inPlace := ["internal/bytealg.Compare"], apart := false }
def FlowHashesSaid : Prop := flowHashesRow.holds Try.pinned (OpenSpec.ofChange flowHashesSpec)

/-- ITS FALSE NEIGHBOUR: 'it returns false'. Refute it at one input. -/
def flowHashesWrong : ChangeSpec := { name := "flowHashes", fn := fun _ => fun
  | [d] => { results := [.lit (.bool false)], args := [d] }
  | _ => none }
def FlowHashesWrongFalsely : Prop := flowHashesRow.holds Try.pinned (OpenSpec.ofChange flowHashesWrong)

/-- 'patchbaylaw17.FlowLanes': WHATEVER THE INPUT: true; the input reads as it did. -/
def flowLanesSpec : ChangeSpec := { name := "flowLanes", fn := fun _ => fun
  | [d1, d2, d3] => { results := [.lit (.bool true)], args := [d1, d2, d3] }
  | _ => none }
def flowLanesRow : OpenClaim := { program := "ytdnddlmlbnachaa", sum := "db8c5d280d75ab4a2fdec158efb3f40fd5556636eb14bcf450608ef41ba7c5d9", func := "patchbay/patchbaylaw17.FlowLanes", spec := "flowLanes", inPlace := ["internal/bytealg.Compare"], apart := false }
def FlowLanesSaid : Prop := flowLanesRow.holds Try.pinned (OpenSpec.ofChange flowLanesSpec)

/-- ITS FALSE NEIGHBOUR: 'it returns false'. Refute it at one input. -/
def flowLanesWrong : ChangeSpec := { name := "flowLanes", fn := fun _ => fun
  | [d1, d2, d3] => { results := [.lit (.bool false)], args := [d1, d2, d3] }
  | _ => none }
def FlowLanesWrongFalsely : Prop := flowLanesRow.holds Try.pinned (OpenSpec.ofChange flowLanesWrong)

/-- 'patchbaylaw17.FlowCompares': WHATEVER THE INPUT: true; the input reads as it did. -/
def flowComparesSpec : ChangeSpec := { name := "flowCompares", fn := fun _ => fun
  | [d1, d2] => { results := [.lit (.bool true)], args := [d1, d2] }
  | _ => none }
def flowComparesRow : OpenClaim := { program := "ytdnddlmlbnachaa", sum := "db8c5d280d75ab4a2fdec158efb3f40fd5556636eb14bcf450608ef41ba7c5d9", func := "patchbay/patchbaylaw17.FlowCompares", spec := "flowCompares", inPlace := ["internal/bytealg.Compare"], apart := false }
def FlowComparesSaid : Prop := flowComparesRow.holds Try.pinned (OpenSpec.ofChange flowComparesSpec)

/-- ITS FALSE NEIGHBOUR: 'it returns false'. Refute it at one input. -/
def flowComparesWrong : ChangeSpec := { name := "flowCompares", fn := fun _ => fun
  | [d1, d2] => { results := [.lit (.bool false)], args := [d1, d2] }
  | _ => none }
def FlowComparesWrongFalsely : Prop := flowComparesRow.holds Try.pinned (OpenSpec.ofChange flowComparesWrong)

/-- 'patchbaylaw17.FlowOrders': WHATEVER THE INPUT: true; the input reads as it did. -/
def flowOrdersSpec : ChangeSpec := { name := "flowOrders", fn := fun _ => fun
  | [d1, d2, d3] => { results := [.lit (.bool true)], args := [d1, d2, d3] }
  | _ => none }
def flowOrdersRow : OpenClaim := { program := "ytdnddlmlbnachaa", sum := "db8c5d280d75ab4a2fdec158efb3f40fd5556636eb14bcf450608ef41ba7c5d9", func := "patchbay/patchbaylaw17.FlowOrders", spec := "flowOrders", inPlace := ["internal/bytealg.Compare"], apart := false }
def FlowOrdersSaid : Prop := flowOrdersRow.holds Try.pinned (OpenSpec.ofChange flowOrdersSpec)

/-- ITS FALSE NEIGHBOUR: 'it returns false'. Refute it at one input. -/
def flowOrdersWrong : ChangeSpec := { name := "flowOrders", fn := fun _ => fun
  | [d1, d2, d3] => { results := [.lit (.bool false)], args := [d1, d2, d3] }
  | _ => none }
def FlowOrdersWrongFalsely : Prop := flowOrdersRow.holds Try.pinned (OpenSpec.ofChange flowOrdersWrong)

/-- 'patchbaylaw17.FlowSpread': WHATEVER THE INPUT: true; the input reads as it did. -/
def flowSpreadSpec : ChangeSpec := { name := "flowSpread", fn := fun _ => fun
  | [d] => { results := [.lit (.bool true)], args := [d] }
  | _ => none }
def flowSpreadRow : OpenClaim := { program := "ytdnddlmlbnachaa", sum := "db8c5d280d75ab4a2fdec158efb3f40fd5556636eb14bcf450608ef41ba7c5d9", func := "patchbay/patchbaylaw17.FlowSpread", spec := "flowSpread", inPlace := ["internal/bytealg.Compare"], apart := false }
def FlowSpreadSaid : Prop := flowSpreadRow.holds Try.pinned (OpenSpec.ofChange flowSpreadSpec)

/-- ITS FALSE NEIGHBOUR: 'it returns false'. Refute it at one input. -/
def flowSpreadWrong : ChangeSpec := { name := "flowSpread", fn := fun _ => fun
  | [d] => { results := [.lit (.bool false)], args := [d] }
  | _ => none }
def FlowSpreadWrongFalsely : Prop := flowSpreadRow.holds Try.pinned (OpenSpec.ofChange flowSpreadWrong)

/-- 'patchbaylaw17.FlowNames': WHATEVER THE INPUT: true; the input reads as it did. -/
def flowNamesSpec : ChangeSpec := { name := "flowNames", fn := fun _ => fun
  | [] => { results := [.lit (.bool true)], args := [] }
  | _ => none }
def flowNamesRow : OpenClaim := { program := "ytdnddlmlbnachaa", sum := "db8c5d280d75ab4a2fdec158efb3f40fd5556636eb14bcf450608ef41ba7c5d9", func := "patchbay/patchbaylaw17.FlowNames", spec := "flowNames", inPlace := ["internal/bytealg.Compare"], apart := false }
def FlowNamesSaid : Prop := flowNamesRow.holds Try.pinned (OpenSpec.ofChange flowNamesSpec)

/-- ITS FALSE NEIGHBOUR: 'it returns false'. Refute it at one input. -/
def flowNamesWrong : ChangeSpec := { name := "flowNames", fn := fun _ => fun
  | [] => { results := [.lit (.bool false)], args := [] }
  | _ => none }
def FlowNamesWrongFalsely : Prop := flowNamesRow.holds Try.pinned (OpenSpec.ofChange flowNamesWrong)

/- THE SECOND FORM. 'bulk': how many values and letters a reading holds, each counted each time it is reached (what is shared counts as often as it is met; a slice's spare places count too). A statement '..UptoSaid' is the law's where the arguments, and the package variables that the reading takes, are together of bulk at most 1048576: NARROWER than '..Said'. Prove '..Said' where nothing that the law and all that it calls make is longer than what came in: it says more and counts as full. Else prove '..UptoSaid'. A law counts once. -/
mutual
def uptoBulk {H : Type} : DataW H → Nat
  | .lit (.string bytes) => bytes.length + 1
  | .lit _ => 1
  | .nil => 1
  | .ptr d => uptoBulk d + 1
  | .slice elems spare => uptoBulkAll elems + uptoBulkAll spare + 1
  | .agg parts => uptoBulkAll parts + 1
  | .iface _ d => uptoBulk d + 1
  | .map entries => uptoBulkEntries entries + 1
  | .held _ => 1
def uptoBulkAll {H : Type} : List (DataW H) → Nat
  | [] => 0
  | d :: r => uptoBulk d + uptoBulkAll r
def uptoBulkEntries {H : Type} : List (Lit × DataW H) → Nat
  | [] => 0
  | x :: r => uptoBulkEntry x + uptoBulkEntries r
def uptoBulkEntry {H : Type} : Lit × DataW H → Nat
  | (.string bytes, d) => bytes.length + uptoBulk d + 1
  | (_, d) => uptoBulk d + 1
 end
def uptoSmall : (H : Type) → List (DataW H) → Bool := fun _ ds => decide (uptoBulkAll ds ≤ 1048576)
def OpenSpec.upto (s : _root_.Go.ChangeSpec) : _root_.Go.OpenSpec := { _root_.Go.OpenSpec.ofChange s with cond := some uptoSmall }

/-- 'patchbaylaw17.FlowOf', WHERE WHAT IT READS IS OF BULK AT MOST 1048576: true; the input reads as it did. -/
def flowOfUptoRow : OpenClaim := { program := "ytdnddlmlbnachaa", sum := "db8c5d280d75ab4a2fdec158efb3f40fd5556636eb14bcf450608ef41ba7c5d9", func := "patchbay/patchbaylaw17.FlowOf", spec := "flowOf", inPlace := ["internal/bytealg.Compare"], apart := false, narrowed := true }
def FlowOfUptoSaid : Prop := flowOfUptoRow.holds Try.pinned (OpenSpec.upto flowOfSpec)

/-- 'patchbaylaw17.FlowHashes', WHERE WHAT IT READS IS OF BULK AT MOST 1048576: true; the input reads as it did. -/
def flowHashesUptoRow : OpenClaim := { program := "ytdnddlmlbnachaa", sum := "db8c5d280d75ab4a2fdec158efb3f40fd5556636eb14bcf450608ef41ba7c5d9", func := "patchbay/patchbaylaw17.FlowHashes", spec := "flowHashes", inPlace := ["internal/bytealg.Compare"], apart := false, narrowed := true }
def FlowHashesUptoSaid : Prop := flowHashesUptoRow.holds Try.pinned (OpenSpec.upto flowHashesSpec)

/-- 'patchbaylaw17.FlowLanes', WHERE WHAT IT READS IS OF BULK AT MOST 1048576: true; the input reads as it did. -/
def flowLanesUptoRow : OpenClaim := { program := "ytdnddlmlbnachaa", sum := "db8c5d280d75ab4a2fdec158efb3f40fd5556636eb14bcf450608ef41ba7c5d9", func := "patchbay/patchbaylaw17.FlowLanes", spec := "flowLanes", inPlace := ["internal/bytealg.Compare"], apart := false, narrowed := true }
def FlowLanesUptoSaid : Prop := flowLanesUptoRow.holds Try.pinned (OpenSpec.upto flowLanesSpec)

/-- 'patchbaylaw17.FlowCompares', WHERE WHAT IT READS IS OF BULK AT MOST 1048576: true; the input reads as it did. -/
def flowComparesUptoRow : OpenClaim := { program := "ytdnddlmlbnachaa", sum := "db8c5d280d75ab4a2fdec158efb3f40fd5556636eb14bcf450608ef41ba7c5d9", func := "patchbay/patchbaylaw17.FlowCompares", spec := "flowCompares", inPlace := ["internal/bytealg.Compare"], apart := false, narrowed := true }
def FlowComparesUptoSaid : Prop := flowComparesUptoRow.holds Try.pinned (OpenSpec.upto flowComparesSpec)

/-- 'patchbaylaw17.FlowOrders', WHERE WHAT IT READS IS OF BULK AT MOST 1048576: true; the input reads as it did. -/
def flowOrdersUptoRow : OpenClaim := { program := "ytdnddlmlbnachaa", sum := "db8c5d280d75ab4a2fdec158efb3f40fd5556636eb14bcf450608ef41ba7c5d9", func := "patchbay/patchbaylaw17.FlowOrders", spec := "flowOrders", inPlace := ["internal/bytealg.Compare"], apart := false, narrowed := true }
def FlowOrdersUptoSaid : Prop := flowOrdersUptoRow.holds Try.pinned (OpenSpec.upto flowOrdersSpec)

/-- 'patchbaylaw17.FlowSpread', WHERE WHAT IT READS IS OF BULK AT MOST 1048576: true; the input reads as it did. -/
def flowSpreadUptoRow : OpenClaim := { program := "ytdnddlmlbnachaa", sum := "db8c5d280d75ab4a2fdec158efb3f40fd5556636eb14bcf450608ef41ba7c5d9", func := "patchbay/patchbaylaw17.FlowSpread", spec := "flowSpread", inPlace := ["internal/bytealg.Compare"], apart := false, narrowed := true }
def FlowSpreadUptoSaid : Prop := flowSpreadUptoRow.holds Try.pinned (OpenSpec.upto flowSpreadSpec)

/-- 'patchbaylaw17.FlowNames', WHERE WHAT IT READS IS OF BULK AT MOST 1048576: true; the input reads as it did. -/
def flowNamesUptoRow : OpenClaim := { program := "ytdnddlmlbnachaa", sum := "db8c5d280d75ab4a2fdec158efb3f40fd5556636eb14bcf450608ef41ba7c5d9", func := "patchbay/patchbaylaw17.FlowNames", spec := "flowNames", inPlace := ["internal/bytealg.Compare"], apart := false, narrowed := true }
def FlowNamesUptoSaid : Prop := flowNamesUptoRow.holds Try.pinned (OpenSpec.upto flowNamesSpec)

end Rows
end Go.Proofs.Ytdnddlmlbnachaa
