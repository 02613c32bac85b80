/-
  No cell of these rows narrows 'for every input' (looked for: loops, veiled, ifaces, maps, wideKeys, modest, calm, conditions, laid).
  DERIVED. THE GIVEN ROWS OF THIS SEAT. 11 by the template 'for every input the law returns true; each argument reads behind the call as it read before'; 0 by the template 'total and deterministic' (their statements: YtofbmpmefgapfaaTotals.lean).
  GIVEN WITH THE SEED: the statements are not yours to turn. If you find one false, say at which input.
  Laid BY PROGRAM, IN A SANDBOX (cutbox-rows.mjs): the forced cells as the released guide's own fill.sh prints them over the translation 49d2cb64ba462441… (all of the seat's roots in one cut). By AI agents, Wed Nov 11 2026. No macro, syntax, notation, axiom, sorry.
-/
import Derived.Test.YtofbmpmefgapfaaChecked
import GoSem.Claim
import GoSem.ClaimJoined
import GoSem.ClaimMapViews
import Derived.JoinedTies
import Derived.KernelRfl
namespace Go.Proofs.Ytofbmpmefgapfaa
/- THE CELL 'sum', in the pinned program and in every row, IS THE sha256 OF THE DUMP (.gsa) THAT YtofbmpmefgapfaaProg.lean LOADS. Nothing in Lean hashes anything: it is a label: what it is worth is what the hold of that sum in a sandbox is worth. -/
noncomputable def Try.pinned : Pinned := { name := "ytofbmpmefgapfaa", sum := "49d2cb64ba4624412f29d1c79db1960761097044ee56766e939bf580d44bc955", checked := Try.checked }
namespace Rows
def none {H : Type} : Left H := { results := [], args := [] }

/-- 'hwlaw.WideAdds': WHATEVER THE INPUT: true; the input reads as it did. -/
def wideAddsSpec : ChangeSpec := { name := "wideAdds", fn := fun _ => fun
  | [d1, d2] => { results := [.lit (.bool true)], args := [d1, d2] }
  | _ => none }
def wideAddsRow : OpenClaim := { program := "ytofbmpmefgapfaa", sum := "49d2cb64ba4624412f29d1c79db1960761097044ee56766e939bf580d44bc955", func := "heartwood/hwlaw.WideAdds", spec := "wideAdds", inPlace := ["math/bits.Add64", "math/bits.Sub64"], apart := false }
def WideAddsSaid : Prop := wideAddsRow.holds Try.pinned (OpenSpec.ofChange wideAddsSpec)

/-- ITS FALSE NEIGHBOUR: 'it returns false'. Refute it at one input. -/
def wideAddsWrong : ChangeSpec := { name := "wideAdds", fn := fun _ => fun
  | [d1, d2] => { results := [.lit (.bool false)], args := [d1, d2] }
  | _ => none }
def WideAddsWrongFalsely : Prop := wideAddsRow.holds Try.pinned (OpenSpec.ofChange wideAddsWrong)

/-- 'hwlaw.WideMoves': WHATEVER THE INPUT: true; the input reads as it did. -/
def wideMovesSpec : ChangeSpec := { name := "wideMoves", fn := fun _ => fun
  | [d1, d2] => { results := [.lit (.bool true)], args := [d1, d2] }
  | _ => none }
def wideMovesRow : OpenClaim := { program := "ytofbmpmefgapfaa", sum := "49d2cb64ba4624412f29d1c79db1960761097044ee56766e939bf580d44bc955", func := "heartwood/hwlaw.WideMoves", spec := "wideMoves", apart := false }
def WideMovesSaid : Prop := wideMovesRow.holds Try.pinned (OpenSpec.ofChange wideMovesSpec)

/-- ITS FALSE NEIGHBOUR: 'it returns false'. Refute it at one input. -/
def wideMovesWrong : ChangeSpec := { name := "wideMoves", fn := fun _ => fun
  | [d1, d2] => { results := [.lit (.bool false)], args := [d1, d2] }
  | _ => none }
def WideMovesWrongFalsely : Prop := wideMovesRow.holds Try.pinned (OpenSpec.ofChange wideMovesWrong)

/-- 'hwlaw.ProdSays': WHATEVER THE INPUT: true; the input reads as it did. -/
def prodSaysSpec : ChangeSpec := { name := "prodSays", fn := fun _ => fun
  | [d1, d2] => { results := [.lit (.bool true)], args := [d1, d2] }
  | _ => none }
def prodSaysRow : OpenClaim := { program := "ytofbmpmefgapfaa", sum := "49d2cb64ba4624412f29d1c79db1960761097044ee56766e939bf580d44bc955", func := "heartwood/hwlaw.ProdSays", spec := "prodSays", inPlace := ["math/bits.Add64", "math/bits.Sub64"], named := ["math/bits.divideError", "math/bits.overflowError"], apart := false }
def ProdSaysSaid : Prop := prodSaysRow.holds Try.pinned (OpenSpec.ofChange prodSaysSpec)

/-- ITS FALSE NEIGHBOUR: 'it returns false'. Refute it at one input. -/
def prodSaysWrong : ChangeSpec := { name := "prodSays", fn := fun _ => fun
  | [d1, d2] => { results := [.lit (.bool false)], args := [d1, d2] }
  | _ => none }
def ProdSaysWrongFalsely : Prop := prodSaysRow.holds Try.pinned (OpenSpec.ofChange prodSaysWrong)

/-- 'hwkeep.WideGroup': WHATEVER THE INPUT: true; the input reads as it did. -/
def wideGroupSpec : ChangeSpec := { name := "wideGroup", fn := fun _ => fun
  | [d1, d2, d3] => { results := [.lit (.bool true)], args := [d1, d2, d3] }
  | _ => none }
def wideGroupRow : OpenClaim := { program := "ytofbmpmefgapfaa", sum := "49d2cb64ba4624412f29d1c79db1960761097044ee56766e939bf580d44bc955", func := "heartwood/hwkeep.WideGroup", spec := "wideGroup", inPlace := ["math/bits.Add64", "math/bits.Sub64"], apart := false }
def WideGroupSaid : Prop := wideGroupRow.holds Try.pinned (OpenSpec.ofChange wideGroupSpec)

/-- ITS FALSE NEIGHBOUR: 'it returns false'. Refute it at one input. -/
def wideGroupWrong : ChangeSpec := { name := "wideGroup", fn := fun _ => fun
  | [d1, d2, d3] => { results := [.lit (.bool false)], args := [d1, d2, d3] }
  | _ => none }
def WideGroupWrongFalsely : Prop := wideGroupRow.holds Try.pinned (OpenSpec.ofChange wideGroupWrong)

/-- 'hwkeep.WideOrder': WHATEVER THE INPUT: true; the input reads as it did. -/
def wideOrderSpec : ChangeSpec := { name := "wideOrder", fn := fun _ => fun
  | [d1, d2, d3] => { results := [.lit (.bool true)], args := [d1, d2, d3] }
  | _ => none }
def wideOrderRow : OpenClaim := { program := "ytofbmpmefgapfaa", sum := "49d2cb64ba4624412f29d1c79db1960761097044ee56766e939bf580d44bc955", func := "heartwood/hwkeep.WideOrder", spec := "wideOrder", inPlace := ["math/bits.Sub64", "math/bits.Add64"], apart := false }
def WideOrderSaid : Prop := wideOrderRow.holds Try.pinned (OpenSpec.ofChange wideOrderSpec)

/-- ITS FALSE NEIGHBOUR: 'it returns false'. Refute it at one input. -/
def wideOrderWrong : ChangeSpec := { name := "wideOrder", fn := fun _ => fun
  | [d1, d2, d3] => { results := [.lit (.bool false)], args := [d1, d2, d3] }
  | _ => none }
def WideOrderWrongFalsely : Prop := wideOrderRow.holds Try.pinned (OpenSpec.ofChange wideOrderWrong)

/-- 'hwkeep.WideShifts': WHATEVER THE INPUT: true; the input reads as it did. -/
def wideShiftsSpec : ChangeSpec := { name := "wideShifts", fn := fun _ => fun
  | [d1, d2, d3] => { results := [.lit (.bool true)], args := [d1, d2, d3] }
  | _ => none }
def wideShiftsRow : OpenClaim := { program := "ytofbmpmefgapfaa", sum := "49d2cb64ba4624412f29d1c79db1960761097044ee56766e939bf580d44bc955", func := "heartwood/hwkeep.WideShifts", spec := "wideShifts", inPlace := ["math/bits.Add64"], apart := false }
def WideShiftsSaid : Prop := wideShiftsRow.holds Try.pinned (OpenSpec.ofChange wideShiftsSpec)

/-- ITS FALSE NEIGHBOUR: 'it returns false'. Refute it at one input. -/
def wideShiftsWrong : ChangeSpec := { name := "wideShifts", fn := fun _ => fun
  | [d1, d2, d3] => { results := [.lit (.bool false)], args := [d1, d2, d3] }
  | _ => none }
def WideShiftsWrongFalsely : Prop := wideShiftsRow.holds Try.pinned (OpenSpec.ofChange wideShiftsWrong)

/-- 'hwkeep.ProdRing': WHATEVER THE INPUT: true; the input reads as it did. -/
def prodRingSpec : ChangeSpec := { name := "prodRing", fn := fun _ => fun
  | [d1, d2, d3] => { results := [.lit (.bool true)], args := [d1, d2, d3] }
  | _ => none }
def prodRingRow : OpenClaim := { program := "ytofbmpmefgapfaa", sum := "49d2cb64ba4624412f29d1c79db1960761097044ee56766e939bf580d44bc955", func := "heartwood/hwkeep.ProdRing", spec := "prodRing", inPlace := ["math/bits.Add64"], apart := false }
def ProdRingSaid : Prop := prodRingRow.holds Try.pinned (OpenSpec.ofChange prodRingSpec)

/-- ITS FALSE NEIGHBOUR: 'it returns false'. Refute it at one input. -/
def prodRingWrong : ChangeSpec := { name := "prodRing", fn := fun _ => fun
  | [d1, d2, d3] => { results := [.lit (.bool false)], args := [d1, d2, d3] }
  | _ => none }
def ProdRingWrongFalsely : Prop := prodRingRow.holds Try.pinned (OpenSpec.ofChange prodRingWrong)

/-- 'hwkeep.DivBack': WHATEVER THE INPUT: true; the input reads as it did. -/
def divBackSpec : ChangeSpec := { name := "divBack", fn := fun _ => fun
  | [d1, d2] => { results := [.lit (.bool true)], args := [d1, d2] }
  | _ => none }
def divBackRow : OpenClaim := { program := "ytofbmpmefgapfaa", sum := "49d2cb64ba4624412f29d1c79db1960761097044ee56766e939bf580d44bc955", func := "heartwood/hwkeep.DivBack", spec := "divBack", inPlace := ["math/bits.Add64", "math/bits.Sub64"], named := ["math/bits.divideError", "math/bits.overflowError"], apart := false }
def DivBackSaid : Prop := divBackRow.holds Try.pinned (OpenSpec.ofChange divBackSpec)

/-- ITS FALSE NEIGHBOUR: 'it returns false'. Refute it at one input. -/
def divBackWrong : ChangeSpec := { name := "divBack", fn := fun _ => fun
  | [d1, d2] => { results := [.lit (.bool false)], args := [d1, d2] }
  | _ => none }
def DivBackWrongFalsely : Prop := divBackRow.holds Try.pinned (OpenSpec.ofChange divBackWrong)

/-- 'hwkeep.ProdLens': WHATEVER THE INPUT: true; the input reads as it did. -/
def prodLensSpec : ChangeSpec := { name := "prodLens", fn := fun _ => fun
  | [d1, d2] => { results := [.lit (.bool true)], args := [d1, d2] }
  | _ => none }
def prodLensRow : OpenClaim := { program := "ytofbmpmefgapfaa", sum := "49d2cb64ba4624412f29d1c79db1960761097044ee56766e939bf580d44bc955", func := "heartwood/hwkeep.ProdLens", spec := "prodLens", inPlace := ["math/bits.Add64"], apart := false }
def ProdLensSaid : Prop := prodLensRow.holds Try.pinned (OpenSpec.ofChange prodLensSpec)

/-- ITS FALSE NEIGHBOUR: 'it returns false'. Refute it at one input. -/
def prodLensWrong : ChangeSpec := { name := "prodLens", fn := fun _ => fun
  | [d1, d2] => { results := [.lit (.bool false)], args := [d1, d2] }
  | _ => none }
def ProdLensWrongFalsely : Prop := prodLensRow.holds Try.pinned (OpenSpec.ofChange prodLensWrong)

/-- 'hwkeep.DivNested': WHATEVER THE INPUT: true; the input reads as it did. -/
def divNestedSpec : ChangeSpec := { name := "divNested", fn := fun _ => fun
  | [d1, d2, d3] => { results := [.lit (.bool true)], args := [d1, d2, d3] }
  | _ => none }
def divNestedRow : OpenClaim := { program := "ytofbmpmefgapfaa", sum := "49d2cb64ba4624412f29d1c79db1960761097044ee56766e939bf580d44bc955", func := "heartwood/hwkeep.DivNested", spec := "divNested", inPlace := ["math/bits.Add64", "math/bits.Sub64"], named := ["math/bits.divideError", "math/bits.overflowError"], apart := false }
def DivNestedSaid : Prop := divNestedRow.holds Try.pinned (OpenSpec.ofChange divNestedSpec)

/-- ITS FALSE NEIGHBOUR: 'it returns false'. Refute it at one input. -/
def divNestedWrong : ChangeSpec := { name := "divNested", fn := fun _ => fun
  | [d1, d2, d3] => { results := [.lit (.bool false)], args := [d1, d2, d3] }
  | _ => none }
def DivNestedWrongFalsely : Prop := divNestedRow.holds Try.pinned (OpenSpec.ofChange divNestedWrong)

/-- 'hwkeep.DivShifts': WHATEVER THE INPUT: true; the input reads as it did. -/
def divShiftsSpec : ChangeSpec := { name := "divShifts", fn := fun _ => fun
  | [d1, d2] => { results := [.lit (.bool true)], args := [d1, d2] }
  | _ => none }
def divShiftsRow : OpenClaim := { program := "ytofbmpmefgapfaa", sum := "49d2cb64ba4624412f29d1c79db1960761097044ee56766e939bf580d44bc955", func := "heartwood/hwkeep.DivShifts", spec := "divShifts", inPlace := ["math/bits.Add64", "math/bits.Sub64"], named := ["math/bits.divideError", "math/bits.overflowError"], apart := false }
def DivShiftsSaid : Prop := divShiftsRow.holds Try.pinned (OpenSpec.ofChange divShiftsSpec)

/-- ITS FALSE NEIGHBOUR: 'it returns false'. Refute it at one input. -/
def divShiftsWrong : ChangeSpec := { name := "divShifts", fn := fun _ => fun
  | [d1, d2] => { results := [.lit (.bool false)], args := [d1, d2] }
  | _ => none }
def DivShiftsWrongFalsely : Prop := divShiftsRow.holds Try.pinned (OpenSpec.ofChange divShiftsWrong)

/- THE SECOND FORM. 'bulk': how many values and letters a reading holds, each counted each time it is reached (what is shared counts as often as it is met; a slice's spare places count too). A statement '..UptoSaid' is the law's where the arguments, and the package variables that the reading takes, are together of bulk at most 1048576: NARROWER than '..Said'. Prove '..Said' where nothing that the law and all that it calls make is longer than what came in: it says more and counts as full. Else prove '..UptoSaid'. A law counts once. -/
mutual
def uptoBulk {H : Type} : DataW H → Nat
  | .lit (.string bytes) => bytes.length + 1
  | .lit _ => 1
  | .nil => 1
  | .ptr d => uptoBulk d + 1
  | .slice elems spare => uptoBulkAll elems + uptoBulkAll spare + 1
  | .agg parts => uptoBulkAll parts + 1
  | .iface _ d => uptoBulk d + 1
  | .map entries => uptoBulkEntries entries + 1
  | .held _ => 1
def uptoBulkAll {H : Type} : List (DataW H) → Nat
  | [] => 0
  | d :: r => uptoBulk d + uptoBulkAll r
def uptoBulkEntries {H : Type} : List (Lit × DataW H) → Nat
  | [] => 0
  | x :: r => uptoBulkEntry x + uptoBulkEntries r
def uptoBulkEntry {H : Type} : Lit × DataW H → Nat
  | (.string bytes, d) => bytes.length + uptoBulk d + 1
  | (_, d) => uptoBulk d + 1
 end
def uptoSmall : (H : Type) → List (DataW H) → Bool := fun _ ds => decide (uptoBulkAll ds ≤ 1048576)
def OpenSpec.upto (s : _root_.Go.ChangeSpec) : _root_.Go.OpenSpec := { _root_.Go.OpenSpec.ofChange s with cond := some uptoSmall }

/-- 'hwlaw.WideAdds', WHERE WHAT IT READS IS OF BULK AT MOST 1048576: true; the input reads as it did. -/
def wideAddsUptoRow : OpenClaim := { program := "ytofbmpmefgapfaa", sum := "49d2cb64ba4624412f29d1c79db1960761097044ee56766e939bf580d44bc955", func := "heartwood/hwlaw.WideAdds", spec := "wideAdds", inPlace := ["math/bits.Add64", "math/bits.Sub64"], apart := false, narrowed := true }
def WideAddsUptoSaid : Prop := wideAddsUptoRow.holds Try.pinned (OpenSpec.upto wideAddsSpec)

/-- 'hwlaw.WideMoves', WHERE WHAT IT READS IS OF BULK AT MOST 1048576: true; the input reads as it did. -/
def wideMovesUptoRow : OpenClaim := { program := "ytofbmpmefgapfaa", sum := "49d2cb64ba4624412f29d1c79db1960761097044ee56766e939bf580d44bc955", func := "heartwood/hwlaw.WideMoves", spec := "wideMoves", apart := false, narrowed := true }
def WideMovesUptoSaid : Prop := wideMovesUptoRow.holds Try.pinned (OpenSpec.upto wideMovesSpec)

/-- 'hwlaw.ProdSays', WHERE WHAT IT READS IS OF BULK AT MOST 1048576: true; the input reads as it did. -/
def prodSaysUptoRow : OpenClaim := { program := "ytofbmpmefgapfaa", sum := "49d2cb64ba4624412f29d1c79db1960761097044ee56766e939bf580d44bc955", func := "heartwood/hwlaw.ProdSays", spec := "prodSays", inPlace := ["math/bits.Add64", "math/bits.Sub64"], named := ["math/bits.divideError", "math/bits.overflowError"], apart := false, narrowed := true }
def ProdSaysUptoSaid : Prop := prodSaysUptoRow.holds Try.pinned (OpenSpec.upto prodSaysSpec)

/-- 'hwkeep.WideGroup', WHERE WHAT IT READS IS OF BULK AT MOST 1048576: true; the input reads as it did. -/
def wideGroupUptoRow : OpenClaim := { program := "ytofbmpmefgapfaa", sum := "49d2cb64ba4624412f29d1c79db1960761097044ee56766e939bf580d44bc955", func := "heartwood/hwkeep.WideGroup", spec := "wideGroup", inPlace := ["math/bits.Add64", "math/bits.Sub64"], apart := false, narrowed := true }
def WideGroupUptoSaid : Prop := wideGroupUptoRow.holds Try.pinned (OpenSpec.upto wideGroupSpec)

/-- 'hwkeep.WideOrder', WHERE WHAT IT READS IS OF BULK AT MOST 1048576: true; the input reads as it did. -/
def wideOrderUptoRow : OpenClaim := { program := "ytofbmpmefgapfaa", sum := "49d2cb64ba4624412f29d1c79db1960761097044ee56766e939bf580d44bc955", func := "heartwood/hwkeep.WideOrder", spec := "wideOrder", inPlace := ["math/bits.Sub64", "math/bits.Add64"], apart := false, narrowed := true }
def WideOrderUptoSaid : Prop := wideOrderUptoRow.holds Try.pinned (OpenSpec.upto wideOrderSpec)

/-- 'hwkeep.WideShifts', WHERE WHAT IT READS IS OF BULK AT MOST 1048576: true; the input reads as it did. -/
def wideShiftsUptoRow : OpenClaim := { program := "ytofbmpmefgapfaa", sum := "49d2cb64ba4624412f29d1c79db1960761097044ee56766e939bf580d44bc955", func := "heartwood/hwkeep.WideShifts", spec := "wideShifts", inPlace := ["math/bits.Add64"], apart := false, narrowed := true }
def WideShiftsUptoSaid : Prop := wideShiftsUptoRow.holds Try.pinned (OpenSpec.upto wideShiftsSpec)

/-- 'hwkeep.ProdRing', WHERE WHAT IT READS IS OF BULK AT MOST 1048576: true; the input reads as it did. -/
def prodRingUptoRow : OpenClaim := { program := "ytofbmpmefgapfaa", sum := "49d2cb64ba4624412f29d1c79db1960761097044ee56766e939bf580d44bc955", func := "heartwood/hwkeep.ProdRing", spec := "prodRing", inPlace := ["math/bits.Add64"], apart := false, narrowed := true }
def ProdRingUptoSaid : Prop := prodRingUptoRow.holds Try.pinned (OpenSpec.upto prodRingSpec)

/-- 'hwkeep.DivBack', WHERE WHAT IT READS IS OF BULK AT MOST 1048576: true; the input reads as it did. -/
def divBackUptoRow : OpenClaim := { program := "ytofbmpmefgapfaa", sum := "49d2cb64ba4624412f29d1c79db1960761097044ee56766e939bf580d44bc955", func := "heartwood/hwkeep.DivBack", spec := "divBack", inPlace := ["math/bits.Add64", "math/bits.Sub64"], named := ["math/bits.divideError", "math/bits.overflowError"], apart := false, narrowed := true }
def DivBackUptoSaid : Prop := divBackUptoRow.holds Try.pinned (OpenSpec.upto divBackSpec)

/-- 'hwkeep.ProdLens', WHERE WHAT IT READS IS OF BULK AT MOST 1048576: true; the input reads as it did. -/
def prodLensUptoRow : OpenClaim := { program := "ytofbmpmefgapfaa", sum := "49d2cb64ba4624412f29d1c79db1960761097044ee56766e939bf580d44bc955", func := "heartwood/hwkeep.ProdLens", spec := "prodLens", inPlace := ["math/bits.Add64"], apart := false, narrowed := true }
def ProdLensUptoSaid : Prop := prodLensUptoRow.holds Try.pinned (OpenSpec.upto prodLensSpec)

/-- 'hwkeep.DivNested', WHERE WHAT IT READS IS OF BULK AT MOST 1048576: true; the input reads as it did. -/
def divNestedUptoRow : OpenClaim := { program := "ytofbmpmefgapfaa", sum := "49d2cb64ba4624412f29d1c79db1960761097044ee56766e939bf580d44bc955", func := "heartwood/hwkeep.DivNested", spec := "divNested", inPlace := ["math/bits.Add64", "math/bits.Sub64"], named := ["math/bits.divideError", "math/bits.overflowError"], apart := false, narrowed := true }
def DivNestedUptoSaid : Prop := divNestedUptoRow.holds Try.pinned (OpenSpec.upto divNestedSpec)

/-- 'hwkeep.DivShifts', WHERE WHAT IT READS IS OF BULK AT MOST 1048576: true; the input reads as it did. -/
def divShiftsUptoRow : OpenClaim := { program := "ytofbmpmefgapfaa", sum := "49d2cb64ba4624412f29d1c79db1960761097044ee56766e939bf580d44bc955", func := "heartwood/hwkeep.DivShifts", spec := "divShifts", inPlace := ["math/bits.Add64", "math/bits.Sub64"], named := ["math/bits.divideError", "math/bits.overflowError"], apart := false, narrowed := true }
def DivShiftsUptoSaid : Prop := divShiftsUptoRow.holds Try.pinned (OpenSpec.upto divShiftsSpec)

end Rows
end Go.Proofs.Ytofbmpmefgapfaa
