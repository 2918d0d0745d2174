/-
  No cell of these rows narrows 'for every input' (looked for: loops, veiled, ifaces, maps, wideKeys, modest, calm, conditions, laid).
  DERIVED. THE GIVEN ROWS OF THIS SEAT. 8 by the template 'for every input the law returns true; each argument reads behind the call as it read before'; 0 by the template 'total and deterministic' (their statements: YtidengmcbppcoaaTotals.lean).
  GIVEN WITH THE SEED: the statements are not yours to turn. If you find one false, say at which input.
  Laid BY PROGRAM, IN A SANDBOX (cutbox-rows.mjs): the forced cells as the released guide's own fill.sh prints them over the translation c2d4f936bf1eac1e… (all of the seat's roots in one cut). By AI agents, Wed Nov 11 2026. No macro, syntax, notation, axiom, sorry.
-/
import Derived.Test.YtidengmcbppcoaaChecked
import GoSem.Claim
import GoSem.ClaimJoined
import GoSem.ClaimMapViews
import Derived.JoinedTies
import Derived.KernelRfl
namespace Go.Proofs.Ytidengmcbppcoaa
/- THE CELL 'sum', in the pinned program and in every row, IS THE sha256 OF THE DUMP (.gsa) THAT YtidengmcbppcoaaProg.lean LOADS. Nothing in Lean hashes anything: it is a label: what it is worth is what the hold of that sum in a sandbox is worth. -/
noncomputable def Try.pinned : Pinned := { name := "ytidengmcbppcoaa", sum := "c2d4f936bf1eac1e6eeae683338a31c655b4a889c0c64975c51e0e992672137b", checked := Try.checked }
namespace Rows
def none {H : Type} : Left H := { results := [], args := [] }

/-- 'patchbaylaw16.PacketSame': WHATEVER THE INPUT: true; the input reads as it did. -/
def packetSameSpec : ChangeSpec := { name := "packetSame", fn := fun _ => fun
  | [d1, d2, d3] => { results := [.lit (.bool true)], args := [d1, d2, d3] }
  | _ => none }
def packetSameRow : OpenClaim := { program := "ytidengmcbppcoaa", sum := "c2d4f936bf1eac1e6eeae683338a31c655b4a889c0c64975c51e0e992672137b", func := "patchbay/patchbaylaw16.PacketSame", spec := "packetSame", apart := false }
def PacketSameSaid : Prop := packetSameRow.holds Try.pinned (OpenSpec.ofChange packetSameSpec)

/-- ITS FALSE NEIGHBOUR: 'it returns false'. Refute it at one input. -/
def packetSameWrong : ChangeSpec := { name := "packetSame", fn := fun _ => fun
  | [d1, d2, d3] => { results := [.lit (.bool false)], args := [d1, d2, d3] }
  | _ => none }
def PacketSameWrongFalsely : Prop := packetSameRow.holds Try.pinned (OpenSpec.ofChange packetSameWrong)

/-- 'patchbaylaw16.PacketMakes': WHATEVER THE INPUT: true; the input reads as it did. -/
def packetMakesSpec : ChangeSpec := { name := "packetMakes", fn := fun _ => fun
  | [d] => { results := [.lit (.bool true)], args := [d] }
  | _ => none }
def packetMakesRow : OpenClaim := { program := "ytidengmcbppcoaa", sum := "c2d4f936bf1eac1e6eeae683338a31c655b4a889c0c64975c51e0e992672137b", func := "patchbay/patchbaylaw16.PacketMakes", spec := "packetMakes", apart := false }
def PacketMakesSaid : Prop := packetMakesRow.holds Try.pinned (OpenSpec.ofChange packetMakesSpec)

/-- ITS FALSE NEIGHBOUR: 'it returns false'. Refute it at one input. -/
def packetMakesWrong : ChangeSpec := { name := "packetMakes", fn := fun _ => fun
  | [d] => { results := [.lit (.bool false)], args := [d] }
  | _ => none }
def PacketMakesWrongFalsely : Prop := packetMakesRow.holds Try.pinned (OpenSpec.ofChange packetMakesWrong)

/-- 'patchbaylaw16.PacketReads': WHATEVER THE INPUT: true; the input reads as it did. -/
def packetReadsSpec : ChangeSpec := { name := "packetReads", fn := fun _ => fun
  | [d] => { results := [.lit (.bool true)], args := [d] }
  | _ => none }
def packetReadsRow : OpenClaim := { program := "ytidengmcbppcoaa", sum := "c2d4f936bf1eac1e6eeae683338a31c655b4a889c0c64975c51e0e992672137b", func := "patchbay/patchbaylaw16.PacketReads", spec := "packetReads", apart := false }
def PacketReadsSaid : Prop := packetReadsRow.holds Try.pinned (OpenSpec.ofChange packetReadsSpec)

/-- ITS FALSE NEIGHBOUR: 'it returns false'. Refute it at one input. -/
def packetReadsWrong : ChangeSpec := { name := "packetReads", fn := fun _ => fun
  | [d] => { results := [.lit (.bool false)], args := [d] }
  | _ => none }
def PacketReadsWrongFalsely : Prop := packetReadsRow.holds Try.pinned (OpenSpec.ofChange packetReadsWrong)

/-- 'patchbaylaw16.PacketTurned': WHATEVER THE INPUT: true; the input reads as it did. -/
def packetTurnedSpec : ChangeSpec := { name := "packetTurned", fn := fun _ => fun
  | [d1, d2] => { results := [.lit (.bool true)], args := [d1, d2] }
  | _ => none }
def packetTurnedRow : OpenClaim := { program := "ytidengmcbppcoaa", sum := "c2d4f936bf1eac1e6eeae683338a31c655b4a889c0c64975c51e0e992672137b", func := "patchbay/patchbaylaw16.PacketTurned", spec := "packetTurned", apart := false }
def PacketTurnedSaid : Prop := packetTurnedRow.holds Try.pinned (OpenSpec.ofChange packetTurnedSpec)

/-- ITS FALSE NEIGHBOUR: 'it returns false'. Refute it at one input. -/
def packetTurnedWrong : ChangeSpec := { name := "packetTurned", fn := fun _ => fun
  | [d1, d2] => { results := [.lit (.bool false)], args := [d1, d2] }
  | _ => none }
def PacketTurnedWrongFalsely : Prop := packetTurnedRow.holds Try.pinned (OpenSpec.ofChange packetTurnedWrong)

/-- 'patchbaylaw16.PacketBack': WHATEVER THE INPUT: true; the input reads as it did. -/
def packetBackSpec : ChangeSpec := { name := "packetBack", fn := fun _ => fun
  | [d1, d2] => { results := [.lit (.bool true)], args := [d1, d2] }
  | _ => none }
def packetBackRow : OpenClaim := { program := "ytidengmcbppcoaa", sum := "c2d4f936bf1eac1e6eeae683338a31c655b4a889c0c64975c51e0e992672137b", func := "patchbay/patchbaylaw16.PacketBack", spec := "packetBack", apart := false }
def PacketBackSaid : Prop := packetBackRow.holds Try.pinned (OpenSpec.ofChange packetBackSpec)

/-- ITS FALSE NEIGHBOUR: 'it returns false'. Refute it at one input. -/
def packetBackWrong : ChangeSpec := { name := "packetBack", fn := fun _ => fun
  | [d1, d2] => { results := [.lit (.bool false)], args := [d1, d2] }
  | _ => none }
def PacketBackWrongFalsely : Prop := packetBackRow.holds Try.pinned (OpenSpec.ofChange packetBackWrong)

/-- 'patchbaylaw16.PacketBits': WHATEVER THE INPUT: true; the input reads as it did. -/
def packetBitsSpec : ChangeSpec := { name := "packetBits", fn := fun _ => fun
  | [d] => { results := [.lit (.bool true)], args := [d] }
  | _ => none }
def packetBitsRow : OpenClaim := { program := "ytidengmcbppcoaa", sum := "c2d4f936bf1eac1e6eeae683338a31c655b4a889c0c64975c51e0e992672137b", func := "patchbay/patchbaylaw16.PacketBits", spec := "packetBits", apart := false }
def PacketBitsSaid : Prop := packetBitsRow.holds Try.pinned (OpenSpec.ofChange packetBitsSpec)

/-- ITS FALSE NEIGHBOUR: 'it returns false'. Refute it at one input. -/
def packetBitsWrong : ChangeSpec := { name := "packetBits", fn := fun _ => fun
  | [d] => { results := [.lit (.bool false)], args := [d] }
  | _ => none }
def PacketBitsWrongFalsely : Prop := packetBitsRow.holds Try.pinned (OpenSpec.ofChange packetBitsWrong)

/-- 'patchbaylaw16.PacketOlder': WHATEVER THE INPUT: true; the input reads as it did. -/
def packetOlderSpec : ChangeSpec := { name := "packetOlder", fn := fun _ => fun
  | [d] => { results := [.lit (.bool true)], args := [d] }
  | _ => none }
def packetOlderRow : OpenClaim := { program := "ytidengmcbppcoaa", sum := "c2d4f936bf1eac1e6eeae683338a31c655b4a889c0c64975c51e0e992672137b", func := "patchbay/patchbaylaw16.PacketOlder", spec := "packetOlder", apart := false }
def PacketOlderSaid : Prop := packetOlderRow.holds Try.pinned (OpenSpec.ofChange packetOlderSpec)

/-- ITS FALSE NEIGHBOUR: 'it returns false'. Refute it at one input. -/
def packetOlderWrong : ChangeSpec := { name := "packetOlder", fn := fun _ => fun
  | [d] => { results := [.lit (.bool false)], args := [d] }
  | _ => none }
def PacketOlderWrongFalsely : Prop := packetOlderRow.holds Try.pinned (OpenSpec.ofChange packetOlderWrong)

/-- 'patchbaylaw16.PacketKnown': WHATEVER THE INPUT: true; the input reads as it did. -/
def packetKnownSpec : ChangeSpec := { name := "packetKnown", fn := fun _ => fun
  | [] => { results := [.lit (.bool true)], args := [] }
  | _ => none }
def packetKnownRow : OpenClaim := { program := "ytidengmcbppcoaa", sum := "c2d4f936bf1eac1e6eeae683338a31c655b4a889c0c64975c51e0e992672137b", func := "patchbay/patchbaylaw16.PacketKnown", spec := "packetKnown", apart := false }
def PacketKnownSaid : Prop := packetKnownRow.holds Try.pinned (OpenSpec.ofChange packetKnownSpec)

/-- ITS FALSE NEIGHBOUR: 'it returns false'. Refute it at one input. -/
def packetKnownWrong : ChangeSpec := { name := "packetKnown", fn := fun _ => fun
  | [] => { results := [.lit (.bool false)], args := [] }
  | _ => none }
def PacketKnownWrongFalsely : Prop := packetKnownRow.holds Try.pinned (OpenSpec.ofChange packetKnownWrong)

/- THE SECOND FORM. 'bulk': how many values and letters a reading holds, each counted each time it is reached (what is shared counts as often as it is met; a slice's spare places count too). A statement '..UptoSaid' is the law's where the arguments, and the package variables that the reading takes, are together of bulk at most 1048576: NARROWER than '..Said'. Prove '..Said' where nothing that the law and all that it calls make is longer than what came in: it says more and counts as full. Else prove '..UptoSaid'. A law counts once. -/
mutual
def uptoBulk {H : Type} : DataW H → Nat
  | .lit (.string bytes) => bytes.length + 1
  | .lit _ => 1
  | .nil => 1
  | .ptr d => uptoBulk d + 1
  | .slice elems spare => uptoBulkAll elems + uptoBulkAll spare + 1
  | .agg parts => uptoBulkAll parts + 1
  | .iface _ d => uptoBulk d + 1
  | .map entries => uptoBulkEntries entries + 1
  | .held _ => 1
def uptoBulkAll {H : Type} : List (DataW H) → Nat
  | [] => 0
  | d :: r => uptoBulk d + uptoBulkAll r
def uptoBulkEntries {H : Type} : List (Lit × DataW H) → Nat
  | [] => 0
  | x :: r => uptoBulkEntry x + uptoBulkEntries r
def uptoBulkEntry {H : Type} : Lit × DataW H → Nat
  | (.string bytes, d) => bytes.length + uptoBulk d + 1
  | (_, d) => uptoBulk d + 1
 end
def uptoSmall : (H : Type) → List (DataW H) → Bool := fun _ ds => decide (uptoBulkAll ds ≤ 1048576)
def OpenSpec.upto (s : _root_.Go.ChangeSpec) : _root_.Go.OpenSpec := { _root_.Go.OpenSpec.ofChange s with cond := some uptoSmall }

/-- 'patchbaylaw16.PacketSame', WHERE WHAT IT READS IS OF BULK AT MOST 1048576: true; the input reads as it did. -/
def packetSameUptoRow : OpenClaim := { program := "ytidengmcbppcoaa", sum := "c2d4f936bf1eac1e6eeae683338a31c655b4a889c0c64975c51e0e992672137b", func := "patchbay/patchbaylaw16.PacketSame", spec := "packetSame", apart := false, narrowed := true }
def PacketSameUptoSaid : Prop := packetSameUptoRow.holds Try.pinned (OpenSpec.upto packetSameSpec)

/-- 'patchbaylaw16.PacketMakes', WHERE WHAT IT READS IS OF BULK AT MOST 1048576: true; the input reads as it did. -/
def packetMakesUptoRow : OpenClaim := { program := "ytidengmcbppcoaa", sum := "c2d4f936bf1eac1e6eeae683338a31c655b4a889c0c64975c51e0e992672137b", func := "patchbay/patchbaylaw16.PacketMakes", spec := "packetMakes", apart := false, narrowed := true }
def PacketMakesUptoSaid : Prop := packetMakesUptoRow.holds Try.pinned (OpenSpec.upto packetMakesSpec)

/-- 'patchbaylaw16.PacketReads', WHERE WHAT IT READS IS OF BULK AT MOST 1048576: true; the input reads as it did. -/
def packetReadsUptoRow : OpenClaim := { program := "ytidengmcbppcoaa", sum := "c2d4f936bf1eac1e6eeae683338a31c655b4a889c0c64975c51e0e992672137b", func := "patchbay/patchbaylaw16.PacketReads", spec := "packetReads", apart := false, narrowed := true }
def PacketReadsUptoSaid : Prop := packetReadsUptoRow.holds Try.pinned (OpenSpec.upto packetReadsSpec)

/-- 'patchbaylaw16.PacketTurned', WHERE WHAT IT READS IS OF BULK AT MOST 1048576: true; the input reads as it did. -/
def packetTurnedUptoRow : OpenClaim := { program := "ytidengmcbppcoaa", sum := "c2d4f936bf1eac1e6eeae683338a31c655b4a889c0c64975c51e0e992672137b", func := "patchbay/patchbaylaw16.PacketTurned", spec := "packetTurned", apart := false, narrowed := true }
def PacketTurnedUptoSaid : Prop := packetTurnedUptoRow.holds Try.pinned (OpenSpec.upto packetTurnedSpec)

/-- 'patchbaylaw16.PacketBack', WHERE WHAT IT READS IS OF BULK AT MOST 1048576: true; the input reads as it did. -/
def packetBackUptoRow : OpenClaim := { program := "ytidengmcbppcoaa", sum := "c2d4f936bf1eac1e6eeae683338a31c655b4a889c0c64975c51e0e992672137b", func := "patchbay/patchbaylaw16.PacketBack", spec := "packetBack", apart := false, narrowed := true }
def PacketBackUptoSaid : Prop := packetBackUptoRow.holds Try.pinned (OpenSpec.upto packetBackSpec)

/-- 'patchbaylaw16.PacketBits', WHERE WHAT IT READS IS OF BULK AT MOST 1048576: true; the input reads as it did. -/
def packetBitsUptoRow : OpenClaim := { program := "ytidengmcbppcoaa", sum := "c2d4f936bf1eac1e6eeae683338a31c655b4a889c0c64975c51e0e992672137b", func := "patchbay/patchbaylaw16.PacketBits", spec := "packetBits", apart := false, narrowed := true }
def PacketBitsUptoSaid : Prop := packetBitsUptoRow.holds Try.pinned (OpenSpec.upto packetBitsSpec)

/-- 'patchbaylaw16.PacketOlder', WHERE WHAT IT READS IS OF BULK AT MOST 1048576: true; the input reads as it did. -/
def packetOlderUptoRow : OpenClaim := { program := "ytidengmcbppcoaa", sum := "c2d4f936bf1eac1e6eeae683338a31c655b4a889c0c64975c51e0e992672137b", func := "patchbay/patchbaylaw16.PacketOlder", spec := "packetOlder", apart := false, narrowed := true }
def PacketOlderUptoSaid : Prop := packetOlderUptoRow.holds Try.pinned (OpenSpec.upto packetOlderSpec)

/-- 'patchbaylaw16.PacketKnown', WHERE WHAT IT READS IS OF BULK AT MOST 1048576: true; the input reads as it did. -/
def packetKnownUptoRow : OpenClaim := { program := "ytidengmcbppcoaa", sum := "c2d4f936bf1eac1e6eeae683338a31c655b4a889c0c64975c51e0e992672137b", func := "patchbay/patchbaylaw16.PacketKnown", spec := "packetKnown", apart := false, narrowed := true }
def PacketKnownUptoSaid : Prop := packetKnownUptoRow.holds Try.pinned (OpenSpec.upto packetKnownSpec)

end Rows
end Go.Proofs.Ytidengmcbppcoaa
