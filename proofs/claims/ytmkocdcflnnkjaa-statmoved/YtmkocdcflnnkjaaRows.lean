/-
  No cell of these rows narrows 'for every input' (looked for: loops, veiled, ifaces, maps, wideKeys, modest, calm, conditions, laid).
  DERIVED. THE GIVEN ROWS OF THIS SEAT. 13 by the template 'for every input the law returns true; each argument reads behind the call as it read before'; 0 by the template 'total and deterministic' (their statements: YtmkocdcflnnkjaaTotals.lean).
  GIVEN WITH THE SEED: the statements are not yours to turn. If you find one false, say at which input.
  Laid BY PROGRAM, IN A SANDBOX (cutbox-rows.mjs): the forced cells as the released guide's own fill.sh prints them over the translation 3f12e5a656db4567… (all of the seat's roots in one cut). By AI agents, Wed Nov 11 2026. No macro, syntax, notation, axiom, sorry.
-/
import Derived.Test.YtmkocdcflnnkjaaChecked
import GoSem.Claim
import GoSem.ClaimJoined
import GoSem.ClaimMapViews
import Derived.JoinedTies
import Derived.KernelRfl
namespace Go.Proofs.Ytmkocdcflnnkjaa
/- THE CELL 'sum', in the pinned program and in every row, IS THE sha256 OF THE DUMP (.gsa) THAT YtmkocdcflnnkjaaProg.lean LOADS. Nothing in Lean hashes anything: it is a label: what it is worth is what the hold of that sum in a sandbox is worth. -/
noncomputable def Try.pinned : Pinned := { name := "ytmkocdcflnnkjaa", sum := "3f12e5a656db456782f73ff1cf97cd3dfaf89de9a118a3367a6a387ac7c9c053", checked := Try.checked }
namespace Rows
def none {H : Type} : Left H := { results := [], args := [] }

/-- 'hwlaw.WinSays': WHATEVER THE INPUT: true; the input reads as it did. -/
def winSaysSpec : ChangeSpec := { name := "winSays", fn := fun _ => fun
  | [d1, d2] => { results := [.lit (.bool true)], args := [d1, d2] }
  | _ => none }
def winSaysRow : OpenClaim := { program := "ytmkocdcflnnkjaa", sum := "3f12e5a656db456782f73ff1cf97cd3dfaf89de9a118a3367a6a387ac7c9c053", func := "heartwood/hwlaw.WinSays", spec := "winSays", unfollowed := true, recurses := true, apart := false }
def WinSaysSaid : Prop := winSaysRow.holds Try.pinned (OpenSpec.ofChange winSaysSpec)

/-- ITS FALSE NEIGHBOUR: 'it returns false'. Refute it at one input. -/
def winSaysWrong : ChangeSpec := { name := "winSays", fn := fun _ => fun
  | [d1, d2] => { results := [.lit (.bool false)], args := [d1, d2] }
  | _ => none }
def WinSaysWrongFalsely : Prop := winSaysRow.holds Try.pinned (OpenSpec.ofChange winSaysWrong)

/-- 'hwlaw.StatSays': WHATEVER THE INPUT: true; the input reads as it did. -/
def statSaysSpec : ChangeSpec := { name := "statSays", fn := fun _ => fun
  | [d1, d2] => { results := [.lit (.bool true)], args := [d1, d2] }
  | _ => none }
def statSaysRow : OpenClaim := { program := "ytmkocdcflnnkjaa", sum := "3f12e5a656db456782f73ff1cf97cd3dfaf89de9a118a3367a6a387ac7c9c053", func := "heartwood/hwlaw.StatSays", spec := "statSays", unfollowed := true, recurses := true, apart := false }
def StatSaysSaid : Prop := statSaysRow.holds Try.pinned (OpenSpec.ofChange statSaysSpec)

/-- ITS FALSE NEIGHBOUR: 'it returns false'. Refute it at one input. -/
def statSaysWrong : ChangeSpec := { name := "statSays", fn := fun _ => fun
  | [d1, d2] => { results := [.lit (.bool false)], args := [d1, d2] }
  | _ => none }
def StatSaysWrongFalsely : Prop := statSaysRow.holds Try.pinned (OpenSpec.ofChange statSaysWrong)

/-- 'hwlaw.StatAdds': WHATEVER THE INPUT: true; the input reads as it did. -/
def statAddsSpec : ChangeSpec := { name := "statAdds", fn := fun _ => fun
  | [d1, d2, d3] => { results := [.lit (.bool true)], args := [d1, d2, d3] }
  | _ => none }
def statAddsRow : OpenClaim := { program := "ytmkocdcflnnkjaa", sum := "3f12e5a656db456782f73ff1cf97cd3dfaf89de9a118a3367a6a387ac7c9c053", func := "heartwood/hwlaw.StatAdds", spec := "statAdds", unfollowed := true, recurses := true, apart := false }
def StatAddsSaid : Prop := statAddsRow.holds Try.pinned (OpenSpec.ofChange statAddsSpec)

/-- ITS FALSE NEIGHBOUR: 'it returns false'. Refute it at one input. -/
def statAddsWrong : ChangeSpec := { name := "statAdds", fn := fun _ => fun
  | [d1, d2, d3] => { results := [.lit (.bool false)], args := [d1, d2, d3] }
  | _ => none }
def StatAddsWrongFalsely : Prop := statAddsRow.holds Try.pinned (OpenSpec.ofChange statAddsWrong)

/-- 'hwkeep.WinLast': WHATEVER THE INPUT: true; the input reads as it did. -/
def winLastSpec : ChangeSpec := { name := "winLast", fn := fun _ => fun
  | [d1, d2] => { results := [.lit (.bool true)], args := [d1, d2] }
  | _ => none }
def winLastRow : OpenClaim := { program := "ytmkocdcflnnkjaa", sum := "3f12e5a656db456782f73ff1cf97cd3dfaf89de9a118a3367a6a387ac7c9c053", func := "heartwood/hwkeep.WinLast", spec := "winLast", unfollowed := true, recurses := true, apart := false }
def WinLastSaid : Prop := winLastRow.holds Try.pinned (OpenSpec.ofChange winLastSpec)

/-- ITS FALSE NEIGHBOUR: 'it returns false'. Refute it at one input. -/
def winLastWrong : ChangeSpec := { name := "winLast", fn := fun _ => fun
  | [d1, d2] => { results := [.lit (.bool false)], args := [d1, d2] }
  | _ => none }
def WinLastWrongFalsely : Prop := winLastRow.holds Try.pinned (OpenSpec.ofChange winLastWrong)

/-- 'hwkeep.StatJoins': WHATEVER THE INPUT: true; the input reads as it did. -/
def statJoinsSpec : ChangeSpec := { name := "statJoins", fn := fun _ => fun
  | [d1, d2, d3] => { results := [.lit (.bool true)], args := [d1, d2, d3] }
  | _ => none }
def statJoinsRow : OpenClaim := { program := "ytmkocdcflnnkjaa", sum := "3f12e5a656db456782f73ff1cf97cd3dfaf89de9a118a3367a6a387ac7c9c053", func := "heartwood/hwkeep.StatJoins", spec := "statJoins", unfollowed := true, recurses := true, apart := false }
def StatJoinsSaid : Prop := statJoinsRow.holds Try.pinned (OpenSpec.ofChange statJoinsSpec)

/-- ITS FALSE NEIGHBOUR: 'it returns false'. Refute it at one input. -/
def statJoinsWrong : ChangeSpec := { name := "statJoins", fn := fun _ => fun
  | [d1, d2, d3] => { results := [.lit (.bool false)], args := [d1, d2, d3] }
  | _ => none }
def StatJoinsWrongFalsely : Prop := statJoinsRow.holds Try.pinned (OpenSpec.ofChange statJoinsWrong)

/-- 'hwkeep.StatLagrange': WHATEVER THE INPUT: true; the input reads as it did. -/
def statLagrangeSpec : ChangeSpec := { name := "statLagrange", fn := fun _ => fun
  | [d] => { results := [.lit (.bool true)], args := [d] }
  | _ => none }
def statLagrangeRow : OpenClaim := { program := "ytmkocdcflnnkjaa", sum := "3f12e5a656db456782f73ff1cf97cd3dfaf89de9a118a3367a6a387ac7c9c053", func := "heartwood/hwkeep.StatLagrange", spec := "statLagrange", unfollowed := true, recurses := true, apart := false }
def StatLagrangeSaid : Prop := statLagrangeRow.holds Try.pinned (OpenSpec.ofChange statLagrangeSpec)

/-- ITS FALSE NEIGHBOUR: 'it returns false'. Refute it at one input. -/
def statLagrangeWrong : ChangeSpec := { name := "statLagrange", fn := fun _ => fun
  | [d] => { results := [.lit (.bool false)], args := [d] }
  | _ => none }
def StatLagrangeWrongFalsely : Prop := statLagrangeRow.holds Try.pinned (OpenSpec.ofChange statLagrangeWrong)

/-- 'hwkeep.StatSteiner': WHATEVER THE INPUT: true; the input reads as it did. -/
def statSteinerSpec : ChangeSpec := { name := "statSteiner", fn := fun _ => fun
  | [d1, d2] => { results := [.lit (.bool true)], args := [d1, d2] }
  | _ => none }
def statSteinerRow : OpenClaim := { program := "ytmkocdcflnnkjaa", sum := "3f12e5a656db456782f73ff1cf97cd3dfaf89de9a118a3367a6a387ac7c9c053", func := "heartwood/hwkeep.StatSteiner", spec := "statSteiner", unfollowed := true, recurses := true, apart := false }
def StatSteinerSaid : Prop := statSteinerRow.holds Try.pinned (OpenSpec.ofChange statSteinerSpec)

/-- ITS FALSE NEIGHBOUR: 'it returns false'. Refute it at one input. -/
def statSteinerWrong : ChangeSpec := { name := "statSteiner", fn := fun _ => fun
  | [d1, d2] => { results := [.lit (.bool false)], args := [d1, d2] }
  | _ => none }
def StatSteinerWrongFalsely : Prop := statSteinerRow.holds Try.pinned (OpenSpec.ofChange statSteinerWrong)

/-- 'hwkeep.StatBounds': WHATEVER THE INPUT: true; the input reads as it did. -/
def statBoundsSpec : ChangeSpec := { name := "statBounds", fn := fun _ => fun
  | [d] => { results := [.lit (.bool true)], args := [d] }
  | _ => none }
def statBoundsRow : OpenClaim := { program := "ytmkocdcflnnkjaa", sum := "3f12e5a656db456782f73ff1cf97cd3dfaf89de9a118a3367a6a387ac7c9c053", func := "heartwood/hwkeep.StatBounds", spec := "statBounds", unfollowed := true, recurses := true, apart := false }
def StatBoundsSaid : Prop := statBoundsRow.holds Try.pinned (OpenSpec.ofChange statBoundsSpec)

/-- ITS FALSE NEIGHBOUR: 'it returns false'. Refute it at one input. -/
def statBoundsWrong : ChangeSpec := { name := "statBounds", fn := fun _ => fun
  | [d] => { results := [.lit (.bool false)], args := [d] }
  | _ => none }
def StatBoundsWrongFalsely : Prop := statBoundsRow.holds Try.pinned (OpenSpec.ofChange statBoundsWrong)

/-- 'hwkeep.StatSamuelson': WHATEVER THE INPUT: true; the input reads as it did. -/
def statSamuelsonSpec : ChangeSpec := { name := "statSamuelson", fn := fun _ => fun
  | [d1, d2] => { results := [.lit (.bool true)], args := [d1, d2] }
  | _ => none }
def statSamuelsonRow : OpenClaim := { program := "ytmkocdcflnnkjaa", sum := "3f12e5a656db456782f73ff1cf97cd3dfaf89de9a118a3367a6a387ac7c9c053", func := "heartwood/hwkeep.StatSamuelson", spec := "statSamuelson", inPlace := ["math/bits.Add64"], unfollowed := true, recurses := true, apart := false }
def StatSamuelsonSaid : Prop := statSamuelsonRow.holds Try.pinned (OpenSpec.ofChange statSamuelsonSpec)

/-- ITS FALSE NEIGHBOUR: 'it returns false'. Refute it at one input. -/
def statSamuelsonWrong : ChangeSpec := { name := "statSamuelson", fn := fun _ => fun
  | [d1, d2] => { results := [.lit (.bool false)], args := [d1, d2] }
  | _ => none }
def StatSamuelsonWrongFalsely : Prop := statSamuelsonRow.holds Try.pinned (OpenSpec.ofChange statSamuelsonWrong)

/-- 'hwkeep.StatMoved': WHATEVER THE INPUT: true; the input reads as it did. -/
def statMovedSpec : ChangeSpec := { name := "statMoved", fn := fun _ => fun
  | [d1, d2, d3, d4] => { results := [.lit (.bool true)], args := [d1, d2, d3, d4] }
  | _ => none }
def statMovedRow : OpenClaim := { program := "ytmkocdcflnnkjaa", sum := "3f12e5a656db456782f73ff1cf97cd3dfaf89de9a118a3367a6a387ac7c9c053", func := "heartwood/hwkeep.StatMoved", spec := "statMoved", unfollowed := true, recurses := true, apart := false }
def StatMovedSaid : Prop := statMovedRow.holds Try.pinned (OpenSpec.ofChange statMovedSpec)

/-- ITS FALSE NEIGHBOUR: 'it returns false'. Refute it at one input. -/
def statMovedWrong : ChangeSpec := { name := "statMoved", fn := fun _ => fun
  | [d1, d2, d3, d4] => { results := [.lit (.bool false)], args := [d1, d2, d3, d4] }
  | _ => none }
def StatMovedWrongFalsely : Prop := statMovedRow.holds Try.pinned (OpenSpec.ofChange statMovedWrong)

/-- 'hwkeep.StatMean': WHATEVER THE INPUT: true; the input reads as it did. -/
def statMeanSpec : ChangeSpec := { name := "statMean", fn := fun _ => fun
  | [d1, d2] => { results := [.lit (.bool true)], args := [d1, d2] }
  | _ => none }
def statMeanRow : OpenClaim := { program := "ytmkocdcflnnkjaa", sum := "3f12e5a656db456782f73ff1cf97cd3dfaf89de9a118a3367a6a387ac7c9c053", func := "heartwood/hwkeep.StatMean", spec := "statMean", unfollowed := true, recurses := true, apart := false }
def StatMeanSaid : Prop := statMeanRow.holds Try.pinned (OpenSpec.ofChange statMeanSpec)

/-- ITS FALSE NEIGHBOUR: 'it returns false'. Refute it at one input. -/
def statMeanWrong : ChangeSpec := { name := "statMean", fn := fun _ => fun
  | [d1, d2] => { results := [.lit (.bool false)], args := [d1, d2] }
  | _ => none }
def StatMeanWrongFalsely : Prop := statMeanRow.holds Try.pinned (OpenSpec.ofChange statMeanWrong)

/-- 'hwkeep.WinSlides': WHATEVER THE INPUT: true; the input reads as it did. -/
def winSlidesSpec : ChangeSpec := { name := "winSlides", fn := fun _ => fun
  | [d1, d2] => { results := [.lit (.bool true)], args := [d1, d2] }
  | _ => none }
def winSlidesRow : OpenClaim := { program := "ytmkocdcflnnkjaa", sum := "3f12e5a656db456782f73ff1cf97cd3dfaf89de9a118a3367a6a387ac7c9c053", func := "heartwood/hwkeep.WinSlides", spec := "winSlides", unfollowed := true, recurses := true, apart := false }
def WinSlidesSaid : Prop := winSlidesRow.holds Try.pinned (OpenSpec.ofChange winSlidesSpec)

/-- ITS FALSE NEIGHBOUR: 'it returns false'. Refute it at one input. -/
def winSlidesWrong : ChangeSpec := { name := "winSlides", fn := fun _ => fun
  | [d1, d2] => { results := [.lit (.bool false)], args := [d1, d2] }
  | _ => none }
def WinSlidesWrongFalsely : Prop := winSlidesRow.holds Try.pinned (OpenSpec.ofChange winSlidesWrong)

/-- 'hwkeep.StatChan': WHATEVER THE INPUT: true; the input reads as it did. -/
def statChanSpec : ChangeSpec := { name := "statChan", fn := fun _ => fun
  | [d1, d2] => { results := [.lit (.bool true)], args := [d1, d2] }
  | _ => none }
def statChanRow : OpenClaim := { program := "ytmkocdcflnnkjaa", sum := "3f12e5a656db456782f73ff1cf97cd3dfaf89de9a118a3367a6a387ac7c9c053", func := "heartwood/hwkeep.StatChan", spec := "statChan", unfollowed := true, recurses := true, apart := false }
def StatChanSaid : Prop := statChanRow.holds Try.pinned (OpenSpec.ofChange statChanSpec)

/-- ITS FALSE NEIGHBOUR: 'it returns false'. Refute it at one input. -/
def statChanWrong : ChangeSpec := { name := "statChan", fn := fun _ => fun
  | [d1, d2] => { results := [.lit (.bool false)], args := [d1, d2] }
  | _ => none }
def StatChanWrongFalsely : Prop := statChanRow.holds Try.pinned (OpenSpec.ofChange statChanWrong)

/- THE SECOND FORM. 'bulk': how many values and letters a reading holds, each counted each time it is reached (what is shared counts as often as it is met; a slice's spare places count too). A statement '..UptoSaid' is the law's where the arguments, and the package variables that the reading takes, are together of bulk at most 1048576: NARROWER than '..Said'. Prove '..Said' where nothing that the law and all that it calls make is longer than what came in: it says more and counts as full. Else prove '..UptoSaid'. A law counts once. -/
mutual
def uptoBulk {H : Type} : DataW H → Nat
  | .lit (.string bytes) => bytes.length + 1
  | .lit _ => 1
  | .nil => 1
  | .ptr d => uptoBulk d + 1
  | .slice elems spare => uptoBulkAll elems + uptoBulkAll spare + 1
  | .agg parts => uptoBulkAll parts + 1
  | .iface _ d => uptoBulk d + 1
  | .map entries => uptoBulkEntries entries + 1
  | .held _ => 1
def uptoBulkAll {H : Type} : List (DataW H) → Nat
  | [] => 0
  | d :: r => uptoBulk d + uptoBulkAll r
def uptoBulkEntries {H : Type} : List (Lit × DataW H) → Nat
  | [] => 0
  | x :: r => uptoBulkEntry x + uptoBulkEntries r
def uptoBulkEntry {H : Type} : Lit × DataW H → Nat
  | (.string bytes, d) => bytes.length + uptoBulk d + 1
  | (_, d) => uptoBulk d + 1
 end
def uptoSmall : (H : Type) → List (DataW H) → Bool := fun _ ds => decide (uptoBulkAll ds ≤ 1048576)
def OpenSpec.upto (s : _root_.Go.ChangeSpec) : _root_.Go.OpenSpec := { _root_.Go.OpenSpec.ofChange s with cond := some uptoSmall }

/-- 'hwlaw.WinSays', WHERE WHAT IT READS IS OF BULK AT MOST 1048576: true; the input reads as it did. -/
def winSaysUptoRow : OpenClaim := { program := "ytmkocdcflnnkjaa", sum := "3f12e5a656db456782f73ff1cf97cd3dfaf89de9a118a3367a6a387ac7c9c053", func := "heartwood/hwlaw.WinSays", spec := "winSays", unfollowed := true, recurses := true, apart := false, narrowed := true }
def WinSaysUptoSaid : Prop := winSaysUptoRow.holds Try.pinned (OpenSpec.upto winSaysSpec)

/-- 'hwlaw.StatSays', WHERE WHAT IT READS IS OF BULK AT MOST 1048576: true; the input reads as it did. -/
def statSaysUptoRow : OpenClaim := { program := "ytmkocdcflnnkjaa", sum := "3f12e5a656db456782f73ff1cf97cd3dfaf89de9a118a3367a6a387ac7c9c053", func := "heartwood/hwlaw.StatSays", spec := "statSays", unfollowed := true, recurses := true, apart := false, narrowed := true }
def StatSaysUptoSaid : Prop := statSaysUptoRow.holds Try.pinned (OpenSpec.upto statSaysSpec)

/-- 'hwlaw.StatAdds', WHERE WHAT IT READS IS OF BULK AT MOST 1048576: true; the input reads as it did. -/
def statAddsUptoRow : OpenClaim := { program := "ytmkocdcflnnkjaa", sum := "3f12e5a656db456782f73ff1cf97cd3dfaf89de9a118a3367a6a387ac7c9c053", func := "heartwood/hwlaw.StatAdds", spec := "statAdds", unfollowed := true, recurses := true, apart := false, narrowed := true }
def StatAddsUptoSaid : Prop := statAddsUptoRow.holds Try.pinned (OpenSpec.upto statAddsSpec)

/-- 'hwkeep.WinLast', WHERE WHAT IT READS IS OF BULK AT MOST 1048576: true; the input reads as it did. -/
def winLastUptoRow : OpenClaim := { program := "ytmkocdcflnnkjaa", sum := "3f12e5a656db456782f73ff1cf97cd3dfaf89de9a118a3367a6a387ac7c9c053", func := "heartwood/hwkeep.WinLast", spec := "winLast", unfollowed := true, recurses := true, apart := false, narrowed := true }
def WinLastUptoSaid : Prop := winLastUptoRow.holds Try.pinned (OpenSpec.upto winLastSpec)

/-- 'hwkeep.StatJoins', WHERE WHAT IT READS IS OF BULK AT MOST 1048576: true; the input reads as it did. -/
def statJoinsUptoRow : OpenClaim := { program := "ytmkocdcflnnkjaa", sum := "3f12e5a656db456782f73ff1cf97cd3dfaf89de9a118a3367a6a387ac7c9c053", func := "heartwood/hwkeep.StatJoins", spec := "statJoins", unfollowed := true, recurses := true, apart := false, narrowed := true }
def StatJoinsUptoSaid : Prop := statJoinsUptoRow.holds Try.pinned (OpenSpec.upto statJoinsSpec)

/-- 'hwkeep.StatLagrange', WHERE WHAT IT READS IS OF BULK AT MOST 1048576: true; the input reads as it did. -/
def statLagrangeUptoRow : OpenClaim := { program := "ytmkocdcflnnkjaa", sum := "3f12e5a656db456782f73ff1cf97cd3dfaf89de9a118a3367a6a387ac7c9c053", func := "heartwood/hwkeep.StatLagrange", spec := "statLagrange", unfollowed := true, recurses := true, apart := false, narrowed := true }
def StatLagrangeUptoSaid : Prop := statLagrangeUptoRow.holds Try.pinned (OpenSpec.upto statLagrangeSpec)

/-- 'hwkeep.StatSteiner', WHERE WHAT IT READS IS OF BULK AT MOST 1048576: true; the input reads as it did. -/
def statSteinerUptoRow : OpenClaim := { program := "ytmkocdcflnnkjaa", sum := "3f12e5a656db456782f73ff1cf97cd3dfaf89de9a118a3367a6a387ac7c9c053", func := "heartwood/hwkeep.StatSteiner", spec := "statSteiner", unfollowed := true, recurses := true, apart := false, narrowed := true }
def StatSteinerUptoSaid : Prop := statSteinerUptoRow.holds Try.pinned (OpenSpec.upto statSteinerSpec)

/-- 'hwkeep.StatBounds', WHERE WHAT IT READS IS OF BULK AT MOST 1048576: true; the input reads as it did. -/
def statBoundsUptoRow : OpenClaim := { program := "ytmkocdcflnnkjaa", sum := "3f12e5a656db456782f73ff1cf97cd3dfaf89de9a118a3367a6a387ac7c9c053", func := "heartwood/hwkeep.StatBounds", spec := "statBounds", unfollowed := true, recurses := true, apart := false, narrowed := true }
def StatBoundsUptoSaid : Prop := statBoundsUptoRow.holds Try.pinned (OpenSpec.upto statBoundsSpec)

/-- 'hwkeep.StatSamuelson', WHERE WHAT IT READS IS OF BULK AT MOST 1048576: true; the input reads as it did. -/
def statSamuelsonUptoRow : OpenClaim := { program := "ytmkocdcflnnkjaa", sum := "3f12e5a656db456782f73ff1cf97cd3dfaf89de9a118a3367a6a387ac7c9c053", func := "heartwood/hwkeep.StatSamuelson", spec := "statSamuelson", inPlace := ["math/bits.Add64"], unfollowed := true, recurses := true, apart := false, narrowed := true }
def StatSamuelsonUptoSaid : Prop := statSamuelsonUptoRow.holds Try.pinned (OpenSpec.upto statSamuelsonSpec)

/-- 'hwkeep.StatMoved', WHERE WHAT IT READS IS OF BULK AT MOST 1048576: true; the input reads as it did. -/
def statMovedUptoRow : OpenClaim := { program := "ytmkocdcflnnkjaa", sum := "3f12e5a656db456782f73ff1cf97cd3dfaf89de9a118a3367a6a387ac7c9c053", func := "heartwood/hwkeep.StatMoved", spec := "statMoved", unfollowed := true, recurses := true, apart := false, narrowed := true }
def StatMovedUptoSaid : Prop := statMovedUptoRow.holds Try.pinned (OpenSpec.upto statMovedSpec)

/-- 'hwkeep.StatMean', WHERE WHAT IT READS IS OF BULK AT MOST 1048576: true; the input reads as it did. -/
def statMeanUptoRow : OpenClaim := { program := "ytmkocdcflnnkjaa", sum := "3f12e5a656db456782f73ff1cf97cd3dfaf89de9a118a3367a6a387ac7c9c053", func := "heartwood/hwkeep.StatMean", spec := "statMean", unfollowed := true, recurses := true, apart := false, narrowed := true }
def StatMeanUptoSaid : Prop := statMeanUptoRow.holds Try.pinned (OpenSpec.upto statMeanSpec)

/-- 'hwkeep.WinSlides', WHERE WHAT IT READS IS OF BULK AT MOST 1048576: true; the input reads as it did. -/
def winSlidesUptoRow : OpenClaim := { program := "ytmkocdcflnnkjaa", sum := "3f12e5a656db456782f73ff1cf97cd3dfaf89de9a118a3367a6a387ac7c9c053", func := "heartwood/hwkeep.WinSlides", spec := "winSlides", unfollowed := true, recurses := true, apart := false, narrowed := true }
def WinSlidesUptoSaid : Prop := winSlidesUptoRow.holds Try.pinned (OpenSpec.upto winSlidesSpec)

/-- 'hwkeep.StatChan', WHERE WHAT IT READS IS OF BULK AT MOST 1048576: true; the input reads as it did. -/
def statChanUptoRow : OpenClaim := { program := "ytmkocdcflnnkjaa", sum := "3f12e5a656db456782f73ff1cf97cd3dfaf89de9a118a3367a6a387ac7c9c053", func := "heartwood/hwkeep.StatChan", spec := "statChan", unfollowed := true, recurses := true, apart := false, narrowed := true }
def StatChanUptoSaid : Prop := statChanUptoRow.holds Try.pinned (OpenSpec.upto statChanSpec)

end Rows
end Go.Proofs.Ytmkocdcflnnkjaa
