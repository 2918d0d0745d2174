/-
  No cell of these rows narrows 'for every input' (looked for: loops, veiled, ifaces, maps, wideKeys, modest, calm, conditions, laid).
  DERIVED. THE GIVEN ROWS OF THIS SEAT. 3 by the template 'for every input the law returns true; each argument reads behind the call as it read before'; 0 by the template 'total and deterministic' (their statements: YtadnkidbglhdlaaTotals.lean).
  GIVEN WITH THE SEED: the statements are not yours to turn. If you find one false, say at which input.
  Laid BY PROGRAM, IN A SANDBOX (cutbox-rows.mjs): the forced cells as the released guide's own fill.sh prints them over the translation ca8708c4770205a3… (all of the seat's roots in one cut). By AI agents, Wed Nov 11 2026. No macro, syntax, notation, axiom, sorry.
-/
import Derived.Test.YtadnkidbglhdlaaChecked
import GoSem.Claim
import GoSem.ClaimJoined
import GoSem.ClaimMapViews
import Derived.JoinedTies
import Derived.KernelRfl
namespace Go.Proofs.Ytadnkidbglhdlaa
/- THE CELL 'sum', in the pinned program and in every row, IS THE sha256 OF THE DUMP (.gsa) THAT YtadnkidbglhdlaaProg.lean LOADS. Nothing in Lean hashes anything: it is a label: what it is worth is what the hold of that sum in a sandbox is worth. -/
noncomputable def Try.pinned : Pinned := { name := "ytadnkidbglhdlaa", sum := "ca8708c4770205a3cf02e2d3082243f172a8da6f2c692ebded08c63a5dac6e95", checked := Try.checked }
namespace Rows
def none {H : Type} : Left H := { results := [], args := [] }

/-- 'patchbaylaw14.GaugeNews': WHATEVER THE INPUT: true; the input reads as it did. -/
def gaugeNewsSpec : ChangeSpec := { name := "gaugeNews", fn := fun _ => fun
  | [d1, d2, d3] => { results := [.lit (.bool true)], args := [d1, d2, d3] }
  | _ => none }
def gaugeNewsRow : OpenClaim := { program := "ytadnkidbglhdlaa", sum := "ca8708c4770205a3cf02e2d3082243f172a8da6f2c692ebded08c63a5dac6e95", func := "patchbay/patchbaylaw14.GaugeNews", spec := "gaugeNews", inPlace := ["sync/atomic.StoreUint64", "sync/atomic.LoadUint64", "sync/atomic.CompareAndSwapUint64"], unfollowed := true, recurses := true, apart := false }
def GaugeNewsSaid : Prop := gaugeNewsRow.holds Try.pinned (OpenSpec.ofChange gaugeNewsSpec)

/-- ITS FALSE NEIGHBOUR: 'it returns false'. Refute it at one input. -/
def gaugeNewsWrong : ChangeSpec := { name := "gaugeNews", fn := fun _ => fun
  | [d1, d2, d3] => { results := [.lit (.bool false)], args := [d1, d2, d3] }
  | _ => none }
def GaugeNewsWrongFalsely : Prop := gaugeNewsRow.holds Try.pinned (OpenSpec.ofChange gaugeNewsWrong)

/-- 'patchbaylaw14.GaugeBreakerAlone': WHATEVER THE INPUT: true; the input reads as it did. -/
def gaugeBreakerAloneSpec : ChangeSpec := { name := "gaugeBreakerAlone", fn := fun _ => fun
  | [d1, d2, d3] => { results := [.lit (.bool true)], args := [d1, d2, d3] }
  | _ => none }
def gaugeBreakerAloneRow : OpenClaim := { program := "ytadnkidbglhdlaa", sum := "ca8708c4770205a3cf02e2d3082243f172a8da6f2c692ebded08c63a5dac6e95", func := "patchbay/patchbaylaw14.GaugeBreakerAlone", spec := "gaugeBreakerAlone", inPlace := ["sync/atomic.StoreUint64", "sync/atomic.LoadUint64", "sync/atomic.CompareAndSwapUint64"], unfollowed := true, recurses := true, apart := false }
def GaugeBreakerAloneSaid : Prop := gaugeBreakerAloneRow.holds Try.pinned (OpenSpec.ofChange gaugeBreakerAloneSpec)

/-- ITS FALSE NEIGHBOUR: 'it returns false'. Refute it at one input. -/
def gaugeBreakerAloneWrong : ChangeSpec := { name := "gaugeBreakerAlone", fn := fun _ => fun
  | [d1, d2, d3] => { results := [.lit (.bool false)], args := [d1, d2, d3] }
  | _ => none }
def GaugeBreakerAloneWrongFalsely : Prop := gaugeBreakerAloneRow.holds Try.pinned (OpenSpec.ofChange gaugeBreakerAloneWrong)

/-- 'patchbaylaw14.GaugeNames': WHATEVER THE INPUT: true; the input reads as it did. -/
def gaugeNamesSpec : ChangeSpec := { name := "gaugeNames", fn := fun _ => fun
  | [] => { results := [.lit (.bool true)], args := [] }
  | _ => none }
def gaugeNamesRow : OpenClaim := { program := "ytadnkidbglhdlaa", sum := "ca8708c4770205a3cf02e2d3082243f172a8da6f2c692ebded08c63a5dac6e95", func := "patchbay/patchbaylaw14.GaugeNames", spec := "gaugeNames", inPlace := ["sync/atomic.LoadUint64", "sync/atomic.CompareAndSwapUint64", "sync/atomic.StoreUint64"], unfollowed := true, recurses := true, apart := false }
def GaugeNamesSaid : Prop := gaugeNamesRow.holds Try.pinned (OpenSpec.ofChange gaugeNamesSpec)

/-- ITS FALSE NEIGHBOUR: 'it returns false'. Refute it at one input. -/
def gaugeNamesWrong : ChangeSpec := { name := "gaugeNames", fn := fun _ => fun
  | [] => { results := [.lit (.bool false)], args := [] }
  | _ => none }
def GaugeNamesWrongFalsely : Prop := gaugeNamesRow.holds Try.pinned (OpenSpec.ofChange gaugeNamesWrong)

/- THE SECOND FORM. 'bulk': how many values and letters a reading holds, each counted each time it is reached (what is shared counts as often as it is met; a slice's spare places count too). A statement '..UptoSaid' is the law's where the arguments, and the package variables that the reading takes, are together of bulk at most 1048576: NARROWER than '..Said'. Prove '..Said' where nothing that the law and all that it calls make is longer than what came in: it says more and counts as full. Else prove '..UptoSaid'. A law counts once. -/
mutual
def uptoBulk {H : Type} : DataW H → Nat
  | .lit (.string bytes) => bytes.length + 1
  | .lit _ => 1
  | .nil => 1
  | .ptr d => uptoBulk d + 1
  | .slice elems spare => uptoBulkAll elems + uptoBulkAll spare + 1
  | .agg parts => uptoBulkAll parts + 1
  | .iface _ d => uptoBulk d + 1
  | .map entries => uptoBulkEntries entries + 1
  | .held _ => 1
def uptoBulkAll {H : Type} : List (DataW H) → Nat
  | [] => 0
  | d :: r => uptoBulk d + uptoBulkAll r
def uptoBulkEntries {H : Type} : List (Lit × DataW H) → Nat
  | [] => 0
  | x :: r => uptoBulkEntry x + uptoBulkEntries r
def uptoBulkEntry {H : Type} : Lit × DataW H → Nat
  | (.string bytes, d) => bytes.length + uptoBulk d + 1
  | (_, d) => uptoBulk d + 1
 end
def uptoSmall : (H : Type) → List (DataW H) → Bool := fun _ ds => decide (uptoBulkAll ds ≤ 1048576)
def OpenSpec.upto (s : _root_.Go.ChangeSpec) : _root_.Go.OpenSpec := { _root_.Go.OpenSpec.ofChange s with cond := some uptoSmall }

/-- 'patchbaylaw14.GaugeNews', WHERE WHAT IT READS IS OF BULK AT MOST 1048576: true; the input reads as it did. -/
def gaugeNewsUptoRow : OpenClaim := { program := "ytadnkidbglhdlaa", sum := "ca8708c4770205a3cf02e2d3082243f172a8da6f2c692ebded08c63a5dac6e95", func := "patchbay/patchbaylaw14.GaugeNews", spec := "gaugeNews", inPlace := ["sync/atomic.StoreUint64", "sync/atomic.LoadUint64", "sync/atomic.CompareAndSwapUint64"], unfollowed := true, recurses := true, apart := false, narrowed := true }
def GaugeNewsUptoSaid : Prop := gaugeNewsUptoRow.holds Try.pinned (OpenSpec.upto gaugeNewsSpec)

/-- 'patchbaylaw14.GaugeBreakerAlone', WHERE WHAT IT READS IS OF BULK AT MOST 1048576: true; the input reads as it did. -/
def gaugeBreakerAloneUptoRow : OpenClaim := { program := "ytadnkidbglhdlaa", sum := "ca8708c4770205a3cf02e2d3082243f172a8da6f2c692ebded08c63a5dac6e95", func := "patchbay/patchbaylaw14.GaugeBreakerAlone", spec := "gaugeBreakerAlone", inPlace := ["sync/atomic.StoreUint64", "sync/atomic.LoadUint64", "sync/atomic.CompareAndSwapUint64"], unfollowed := true, recurses := true, apart := false, narrowed := true }
def GaugeBreakerAloneUptoSaid : Prop := gaugeBreakerAloneUptoRow.holds Try.pinned (OpenSpec.upto gaugeBreakerAloneSpec)

/-- 'patchbaylaw14.GaugeNames', WHERE WHAT IT READS IS OF BULK AT MOST 1048576: true; the input reads as it did. -/
def gaugeNamesUptoRow : OpenClaim := { program := "ytadnkidbglhdlaa", sum := "ca8708c4770205a3cf02e2d3082243f172a8da6f2c692ebded08c63a5dac6e95", func := "patchbay/patchbaylaw14.GaugeNames", spec := "gaugeNames", inPlace := ["sync/atomic.LoadUint64", "sync/atomic.CompareAndSwapUint64", "sync/atomic.StoreUint64"], unfollowed := true, recurses := true, apart := false, narrowed := true }
def GaugeNamesUptoSaid : Prop := gaugeNamesUptoRow.holds Try.pinned (OpenSpec.upto gaugeNamesSpec)

end Rows
end Go.Proofs.Ytadnkidbglhdlaa
