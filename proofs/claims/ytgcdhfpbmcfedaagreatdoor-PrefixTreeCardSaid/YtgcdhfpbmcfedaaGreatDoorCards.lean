/-
  DERIVED. GIVEN WITH THE SEED: THE CARDS: each row of YtgcdhfpbmcfedaaGreatDoorRows.lean that lists a variable, with what it lists TIED to the program's text (the seventh form; the later family's looks); each row that meets fmt, with fmt's text TOLD by the authors' own Lean function (tested against real Go, not proved from fmt's source: count such statements apart). THE CARD IS WHAT COUNTS. Prove the row's statement (the work); the ties are given (YtgcdhfpbmcfedaaGreatDoorTie.lean); close each card by the builder's one call (the guide's Derived/Test/ToyasCard.lean, 'card_holds'). Laid BY PROGRAM, IN A SANDBOX (cutbox-door.mjs). By AI agents, Wed Nov 11 2026. No macro, syntax, notation, axiom, sorry.
-/
import Derived.Test.YtgcdhfpbmcfedaaGreatDoorRows
import GoSem.ClaimSeven
namespace Go.Proofs.YtgcdhfpbmcfedaaGreatDoor
namespace Rows

/-- THE TIED CARD OF 'patchbaylaw15.PrefixTree'. -/
def prefixTreeCard : Claim7 := { stood := { row := prefixTreeRow, standIns := [], harness := (true, "1db461c428b83ea07c9ac68efa680f4cb8578cb1c694d33ed21bbe158bba0c74"), looks := true }, kinds := [], alts := [], laidByText := true, laidKinds := [.data, .data, .data, .data, .sentinel, .sentinel, .pinned], laidTests := true, laidLooks := .later }
def PrefixTreeCardSaid : Prop := Claim7.holds Tryz.pinned (.plain (OpenSpec.ofChange prefixTreeSpec)) prefixTreeCard

/-- THE TIED CARD OF 'patchbaylaw15.PrefixTells'. -/
def prefixTellsCard : Claim7 := { stood := { row := prefixTellsRow, standIns := [], harness := (true, "1db461c428b83ea07c9ac68efa680f4cb8578cb1c694d33ed21bbe158bba0c74"), looks := true }, kinds := [], alts := [], laidByText := true, laidKinds := [.data, .data, .data, .data, .sentinel, .sentinel, .pinned], laidTests := true, laidLooks := .later }
def PrefixTellsCardSaid : Prop := Claim7.holds Tryz.pinned (.plain (OpenSpec.ofChange prefixTellsSpec)) prefixTellsCard

/-- THE TIED CARD OF 'patchbaylaw15.PrefixBack'. -/
def prefixBackCard : Claim7 := { stood := { row := prefixBackRow, standIns := [], harness := (true, "1db461c428b83ea07c9ac68efa680f4cb8578cb1c694d33ed21bbe158bba0c74"), looks := true }, kinds := [], alts := [], laidByText := true, laidKinds := [.data, .data, .data, .data, .sentinel, .sentinel, .pinned], laidTests := true, laidLooks := .later }
def PrefixBackCardSaid : Prop := Claim7.holds Tryz.pinned (.plain (OpenSpec.ofChange prefixBackSpec)) prefixBackCard

/-- THE TIED CARD OF 'patchbaylaw15.PrefixReads'. -/
def prefixReadsCard : Claim7 := { stood := { row := prefixReadsRow, standIns := [], harness := (true, "1db461c428b83ea07c9ac68efa680f4cb8578cb1c694d33ed21bbe158bba0c74"), looks := true }, kinds := [], alts := [], laidByText := true, laidKinds := [.data, .data, .data, .data, .sentinel, .sentinel, .pinned], laidTests := true, laidLooks := .later }
def PrefixReadsCardSaid : Prop := Claim7.holds Tryz.pinned (.plain (OpenSpec.ofChange prefixReadsSpec)) prefixReadsCard

/-- THE TIED CARD OF 'patchbaylaw15.PrefixLeast'. -/
def prefixLeastCard : Claim7 := { stood := { row := prefixLeastRow, standIns := [], harness := (true, "1db461c428b83ea07c9ac68efa680f4cb8578cb1c694d33ed21bbe158bba0c74"), looks := true }, kinds := [], alts := [], laidByText := true, laidKinds := [.data, .data, .data, .data, .sentinel, .sentinel, .pinned], laidTests := true, laidLooks := .later }
def PrefixLeastCardSaid : Prop := Claim7.holds Tryz.pinned (.plain (OpenSpec.ofChange prefixLeastSpec)) prefixLeastCard

/-- THE TIED CARD OF 'patchbaylaw15.PrefixMerges'. -/
def prefixMergesCard : Claim7 := { stood := { row := prefixMergesRow, standIns := [], harness := (true, "1db461c428b83ea07c9ac68efa680f4cb8578cb1c694d33ed21bbe158bba0c74"), looks := true }, kinds := [], alts := [], laidByText := true, laidKinds := [.data, .data, .data, .data, .sentinel, .sentinel, .pinned], laidTests := true, laidLooks := .later }
def PrefixMergesCardSaid : Prop := Claim7.holds Tryz.pinned (.plain (OpenSpec.ofChange prefixMergesSpec)) prefixMergesCard

/-- THE TIED CARD OF 'patchbaylaw15.PrefixKnown'. -/
def prefixKnownCard : Claim7 := { stood := { row := prefixKnownRow, standIns := [], harness := (true, "1db461c428b83ea07c9ac68efa680f4cb8578cb1c694d33ed21bbe158bba0c74"), looks := true }, kinds := [], alts := [], laidByText := true, laidKinds := [.data, .data, .data, .data, .sentinel, .sentinel, .pinned], laidTests := true, laidLooks := .later }
def PrefixKnownCardSaid : Prop := Claim7.holds Tryz.pinned (.plain (OpenSpec.ofChange prefixKnownSpec)) prefixKnownCard

/-- THE SECOND FORM's CARD OF 'patchbaylaw15.PrefixTree'. -/
def prefixTreeUptoCard : Claim7 := { stood := { row := prefixTreeUptoRow, standIns := [], harness := (true, "1db461c428b83ea07c9ac68efa680f4cb8578cb1c694d33ed21bbe158bba0c74"), looks := true }, kinds := [], alts := [], laidByText := true, laidKinds := [.data, .data, .data, .data, .sentinel, .sentinel, .pinned], laidTests := true, laidLooks := .later }
def PrefixTreeUptoCardSaid : Prop := Claim7.holds Tryz.pinned (.plain (OpenSpec.upto prefixTreeSpec)) prefixTreeUptoCard

/-- THE SECOND FORM's CARD OF 'patchbaylaw15.PrefixTells'. -/
def prefixTellsUptoCard : Claim7 := { stood := { row := prefixTellsUptoRow, standIns := [], harness := (true, "1db461c428b83ea07c9ac68efa680f4cb8578cb1c694d33ed21bbe158bba0c74"), looks := true }, kinds := [], alts := [], laidByText := true, laidKinds := [.data, .data, .data, .data, .sentinel, .sentinel, .pinned], laidTests := true, laidLooks := .later }
def PrefixTellsUptoCardSaid : Prop := Claim7.holds Tryz.pinned (.plain (OpenSpec.upto prefixTellsSpec)) prefixTellsUptoCard

/-- THE SECOND FORM's CARD OF 'patchbaylaw15.PrefixBack'. -/
def prefixBackUptoCard : Claim7 := { stood := { row := prefixBackUptoRow, standIns := [], harness := (true, "1db461c428b83ea07c9ac68efa680f4cb8578cb1c694d33ed21bbe158bba0c74"), looks := true }, kinds := [], alts := [], laidByText := true, laidKinds := [.data, .data, .data, .data, .sentinel, .sentinel, .pinned], laidTests := true, laidLooks := .later }
def PrefixBackUptoCardSaid : Prop := Claim7.holds Tryz.pinned (.plain (OpenSpec.upto prefixBackSpec)) prefixBackUptoCard

/-- THE SECOND FORM's CARD OF 'patchbaylaw15.PrefixReads'. -/
def prefixReadsUptoCard : Claim7 := { stood := { row := prefixReadsUptoRow, standIns := [], harness := (true, "1db461c428b83ea07c9ac68efa680f4cb8578cb1c694d33ed21bbe158bba0c74"), looks := true }, kinds := [], alts := [], laidByText := true, laidKinds := [.data, .data, .data, .data, .sentinel, .sentinel, .pinned], laidTests := true, laidLooks := .later }
def PrefixReadsUptoCardSaid : Prop := Claim7.holds Tryz.pinned (.plain (OpenSpec.upto prefixReadsSpec)) prefixReadsUptoCard

/-- THE SECOND FORM's CARD OF 'patchbaylaw15.PrefixLeast'. -/
def prefixLeastUptoCard : Claim7 := { stood := { row := prefixLeastUptoRow, standIns := [], harness := (true, "1db461c428b83ea07c9ac68efa680f4cb8578cb1c694d33ed21bbe158bba0c74"), looks := true }, kinds := [], alts := [], laidByText := true, laidKinds := [.data, .data, .data, .data, .sentinel, .sentinel, .pinned], laidTests := true, laidLooks := .later }
def PrefixLeastUptoCardSaid : Prop := Claim7.holds Tryz.pinned (.plain (OpenSpec.upto prefixLeastSpec)) prefixLeastUptoCard

/-- THE SECOND FORM's CARD OF 'patchbaylaw15.PrefixMerges'. -/
def prefixMergesUptoCard : Claim7 := { stood := { row := prefixMergesUptoRow, standIns := [], harness := (true, "1db461c428b83ea07c9ac68efa680f4cb8578cb1c694d33ed21bbe158bba0c74"), looks := true }, kinds := [], alts := [], laidByText := true, laidKinds := [.data, .data, .data, .data, .sentinel, .sentinel, .pinned], laidTests := true, laidLooks := .later }
def PrefixMergesUptoCardSaid : Prop := Claim7.holds Tryz.pinned (.plain (OpenSpec.upto prefixMergesSpec)) prefixMergesUptoCard

/-- THE SECOND FORM's CARD OF 'patchbaylaw15.PrefixKnown'. -/
def prefixKnownUptoCard : Claim7 := { stood := { row := prefixKnownUptoRow, standIns := [], harness := (true, "1db461c428b83ea07c9ac68efa680f4cb8578cb1c694d33ed21bbe158bba0c74"), looks := true }, kinds := [], alts := [], laidByText := true, laidKinds := [.data, .data, .data, .data, .sentinel, .sentinel, .pinned], laidTests := true, laidLooks := .later }
def PrefixKnownUptoCardSaid : Prop := Claim7.holds Tryz.pinned (.plain (OpenSpec.upto prefixKnownSpec)) prefixKnownUptoCard
end Rows
end Go.Proofs.YtgcdhfpbmcfedaaGreatDoor
