/-
  DERIVED. GIVEN WITH THE SEED: THE CARDS: each row of YtmacgmngbmaadaaDoorRows.lean that lists a variable, with what it lists TIED to the program's text (the seventh form; the later family's looks); each row that meets fmt, with fmt's text TOLD by the authors' own Lean function (tested against real Go, not proved from fmt's source: count such statements apart). THE CARD IS WHAT COUNTS. Prove the row's statement (the work); the ties are given (YtmacgmngbmaadaaDoorTie.lean); close each card by the builder's one call (the guide's Derived/Test/ToyasCard.lean, 'card_holds'). Laid BY PROGRAM, IN A SANDBOX (cutbox-door.mjs). By AI agents, Wed Nov 11 2026. No macro, syntax, notation, axiom, sorry.
-/
import Derived.Test.YtmacgmngbmaadaaDoorRows
import GoSem.ClaimSeven
namespace Go.Proofs.YtmacgmngbmaadaaDoor
namespace Rows

/-- THE TIED CARD OF 'hwlaw.CrcSays'. -/
def crcSaysCard : Claim7 := { stood := { row := crcSaysRow, standIns := [], harness := (true, "de0d2a59acf1e43ea4582a9810f7848ddcd44ad661061fc79b9b0a4744ecd816"), looks := false }, kinds := [], alts := [], laidByText := true, laidKinds := [.data], laidTests := true, laidLooks := .later }
def CrcSaysCardSaid : Prop := Claim7.holds Tryd.pinned (.plain (OpenSpec.ofChange crcSaysSpec)) crcSaysCard

/-- THE TIED CARD OF 'hwlaw.BeatSays'. -/
def beatSaysCard : Claim7 := { stood := { row := beatSaysRow, standIns := [], harness := (true, "de0d2a59acf1e43ea4582a9810f7848ddcd44ad661061fc79b9b0a4744ecd816"), looks := false }, kinds := [], alts := [], laidByText := true, laidKinds := [.data], laidTests := true, laidLooks := .later }
def BeatSaysCardSaid : Prop := Claim7.holds Tryd.pinned (.plain (OpenSpec.ofChange beatSaysSpec)) beatSaysCard

/-- THE TIED CARD OF 'hwkeep.CrcLinear'. -/
def crcLinearCard : Claim7 := { stood := { row := crcLinearRow, standIns := [], harness := (true, "de0d2a59acf1e43ea4582a9810f7848ddcd44ad661061fc79b9b0a4744ecd816"), looks := false }, kinds := [], alts := [], laidByText := true, laidKinds := [.data], laidTests := true, laidLooks := .later }
def CrcLinearCardSaid : Prop := Claim7.holds Tryd.pinned (.plain (OpenSpec.ofChange crcLinearSpec)) crcLinearCard

/-- THE TIED CARD OF 'hwkeep.CrcBursts'. -/
def crcBurstsCard : Claim7 := { stood := { row := crcBurstsRow, standIns := [], harness := (true, "de0d2a59acf1e43ea4582a9810f7848ddcd44ad661061fc79b9b0a4744ecd816"), looks := false }, kinds := [], alts := [], laidByText := true, laidKinds := [.data], laidTests := true, laidLooks := .later }
def CrcBurstsCardSaid : Prop := Claim7.holds Tryd.pinned (.plain (OpenSpec.ofChange crcBurstsSpec)) crcBurstsCard

/-- THE TIED CARD OF 'hwkeep.BeatBack'. -/
def beatBackCard : Claim7 := { stood := { row := beatBackRow, standIns := [], harness := (true, "de0d2a59acf1e43ea4582a9810f7848ddcd44ad661061fc79b9b0a4744ecd816"), looks := false }, kinds := [], alts := [], laidByText := true, laidKinds := [.data], laidTests := true, laidLooks := .later }
def BeatBackCardSaid : Prop := Claim7.holds Tryd.pinned (.plain (OpenSpec.ofChange beatBackSpec)) beatBackCard

/-- THE TIED CARD OF 'hwkeep.BeatOne'. -/
def beatOneCard : Claim7 := { stood := { row := beatOneRow, standIns := [], harness := (true, "de0d2a59acf1e43ea4582a9810f7848ddcd44ad661061fc79b9b0a4744ecd816"), looks := false }, kinds := [], alts := [], laidByText := true, laidKinds := [.data], laidTests := true, laidLooks := .later }
def BeatOneCardSaid : Prop := Claim7.holds Tryd.pinned (.plain (OpenSpec.ofChange beatOneSpec)) beatOneCard

/-- THE TIED CARD OF 'hwkeep.BeatBursts'. -/
def beatBurstsCard : Claim7 := { stood := { row := beatBurstsRow, standIns := [], harness := (true, "de0d2a59acf1e43ea4582a9810f7848ddcd44ad661061fc79b9b0a4744ecd816"), looks := false }, kinds := [], alts := [], laidByText := true, laidKinds := [.data], laidTests := true, laidLooks := .later }
def BeatBurstsCardSaid : Prop := Claim7.holds Tryd.pinned (.plain (OpenSpec.ofChange beatBurstsSpec)) beatBurstsCard

/-- THE TIED CARD OF 'hwkeep.BeatSize'. -/
def beatSizeCard : Claim7 := { stood := { row := beatSizeRow, standIns := [], harness := (true, "de0d2a59acf1e43ea4582a9810f7848ddcd44ad661061fc79b9b0a4744ecd816"), looks := false }, kinds := [], alts := [], laidByText := true, laidKinds := [.data], laidTests := true, laidLooks := .later }
def BeatSizeCardSaid : Prop := Claim7.holds Tryd.pinned (.plain (OpenSpec.ofChange beatSizeSpec)) beatSizeCard

/-- THE SECOND FORM's CARD OF 'hwlaw.CrcSays'. -/
def crcSaysUptoCard : Claim7 := { stood := { row := crcSaysUptoRow, standIns := [], harness := (true, "de0d2a59acf1e43ea4582a9810f7848ddcd44ad661061fc79b9b0a4744ecd816"), looks := false }, kinds := [], alts := [], laidByText := true, laidKinds := [.data], laidTests := true, laidLooks := .later }
def CrcSaysUptoCardSaid : Prop := Claim7.holds Tryd.pinned (.plain (OpenSpec.upto crcSaysSpec)) crcSaysUptoCard

/-- THE SECOND FORM's CARD OF 'hwlaw.BeatSays'. -/
def beatSaysUptoCard : Claim7 := { stood := { row := beatSaysUptoRow, standIns := [], harness := (true, "de0d2a59acf1e43ea4582a9810f7848ddcd44ad661061fc79b9b0a4744ecd816"), looks := false }, kinds := [], alts := [], laidByText := true, laidKinds := [.data], laidTests := true, laidLooks := .later }
def BeatSaysUptoCardSaid : Prop := Claim7.holds Tryd.pinned (.plain (OpenSpec.upto beatSaysSpec)) beatSaysUptoCard

/-- THE SECOND FORM's CARD OF 'hwkeep.CrcLinear'. -/
def crcLinearUptoCard : Claim7 := { stood := { row := crcLinearUptoRow, standIns := [], harness := (true, "de0d2a59acf1e43ea4582a9810f7848ddcd44ad661061fc79b9b0a4744ecd816"), looks := false }, kinds := [], alts := [], laidByText := true, laidKinds := [.data], laidTests := true, laidLooks := .later }
def CrcLinearUptoCardSaid : Prop := Claim7.holds Tryd.pinned (.plain (OpenSpec.upto crcLinearSpec)) crcLinearUptoCard

/-- THE SECOND FORM's CARD OF 'hwkeep.CrcBursts'. -/
def crcBurstsUptoCard : Claim7 := { stood := { row := crcBurstsUptoRow, standIns := [], harness := (true, "de0d2a59acf1e43ea4582a9810f7848ddcd44ad661061fc79b9b0a4744ecd816"), looks := false }, kinds := [], alts := [], laidByText := true, laidKinds := [.data], laidTests := true, laidLooks := .later }
def CrcBurstsUptoCardSaid : Prop := Claim7.holds Tryd.pinned (.plain (OpenSpec.upto crcBurstsSpec)) crcBurstsUptoCard

/-- THE SECOND FORM's CARD OF 'hwkeep.BeatBack'. -/
def beatBackUptoCard : Claim7 := { stood := { row := beatBackUptoRow, standIns := [], harness := (true, "de0d2a59acf1e43ea4582a9810f7848ddcd44ad661061fc79b9b0a4744ecd816"), looks := false }, kinds := [], alts := [], laidByText := true, laidKinds := [.data], laidTests := true, laidLooks := .later }
def BeatBackUptoCardSaid : Prop := Claim7.holds Tryd.pinned (.plain (OpenSpec.upto beatBackSpec)) beatBackUptoCard

/-- THE SECOND FORM's CARD OF 'hwkeep.BeatOne'. -/
def beatOneUptoCard : Claim7 := { stood := { row := beatOneUptoRow, standIns := [], harness := (true, "de0d2a59acf1e43ea4582a9810f7848ddcd44ad661061fc79b9b0a4744ecd816"), looks := false }, kinds := [], alts := [], laidByText := true, laidKinds := [.data], laidTests := true, laidLooks := .later }
def BeatOneUptoCardSaid : Prop := Claim7.holds Tryd.pinned (.plain (OpenSpec.upto beatOneSpec)) beatOneUptoCard

/-- THE SECOND FORM's CARD OF 'hwkeep.BeatBursts'. -/
def beatBurstsUptoCard : Claim7 := { stood := { row := beatBurstsUptoRow, standIns := [], harness := (true, "de0d2a59acf1e43ea4582a9810f7848ddcd44ad661061fc79b9b0a4744ecd816"), looks := false }, kinds := [], alts := [], laidByText := true, laidKinds := [.data], laidTests := true, laidLooks := .later }
def BeatBurstsUptoCardSaid : Prop := Claim7.holds Tryd.pinned (.plain (OpenSpec.upto beatBurstsSpec)) beatBurstsUptoCard

/-- THE SECOND FORM's CARD OF 'hwkeep.BeatSize'. -/
def beatSizeUptoCard : Claim7 := { stood := { row := beatSizeUptoRow, standIns := [], harness := (true, "de0d2a59acf1e43ea4582a9810f7848ddcd44ad661061fc79b9b0a4744ecd816"), looks := false }, kinds := [], alts := [], laidByText := true, laidKinds := [.data], laidTests := true, laidLooks := .later }
def BeatSizeUptoCardSaid : Prop := Claim7.holds Tryd.pinned (.plain (OpenSpec.upto beatSizeSpec)) beatSizeUptoCard
end Rows
end Go.Proofs.YtmacgmngbmaadaaDoor
