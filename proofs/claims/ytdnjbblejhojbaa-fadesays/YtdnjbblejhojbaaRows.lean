/-
  No cell of these rows narrows 'for every input' (looked for: loops, veiled, ifaces, maps, wideKeys, modest, calm, conditions, laid).
  DERIVED. THE GIVEN ROWS OF THIS SEAT. 16 by the template 'for every input the law returns true; each argument reads behind the call as it read before'; 0 by the template 'total and deterministic' (their statements: YtdnjbblejhojbaaTotals.lean).
  GIVEN WITH THE SEED: the statements are not yours to turn. If you find one false, say at which input.
  Laid BY PROGRAM, IN A SANDBOX (cutbox-rows.mjs): the forced cells as the released guide's own fill.sh prints them over the translation 7489e64ad4cdd957… (all of the seat's roots in one cut). By AI agents, Wed Nov 11 2026. No macro, syntax, notation, axiom, sorry.
-/
import Derived.Test.YtdnjbblejhojbaaChecked
import GoSem.Claim
import GoSem.ClaimJoined
import GoSem.ClaimMapViews
import Derived.JoinedTies
import Derived.KernelRfl
namespace Go.Proofs.Ytdnjbblejhojbaa
/- THE CELL 'sum', in the pinned program and in every row, IS THE sha256 OF THE DUMP (.gsa) THAT YtdnjbblejhojbaaProg.lean LOADS. Nothing in Lean hashes anything: it is a label: what it is worth is what the hold of that sum in a sandbox is worth. -/
noncomputable def Try.pinned : Pinned := { name := "ytdnjbblejhojbaa", sum := "7489e64ad4cdd957aa55bd7226f12775547fbe37919ecfdf5a0213364e1e6961", checked := Try.checked }
namespace Rows
def none {H : Type} : Left H := { results := [], args := [] }

/-- 'hwlaw.StatAdds': WHATEVER THE INPUT: true; the input reads as it did. -/
def statAddsSpec : ChangeSpec := { name := "statAdds", fn := fun _ => fun
  | [d1, d2, d3] => { results := [.lit (.bool true)], args := [d1, d2, d3] }
  | _ => none }
def statAddsRow : OpenClaim := { program := "ytdnjbblejhojbaa", sum := "7489e64ad4cdd957aa55bd7226f12775547fbe37919ecfdf5a0213364e1e6961", func := "heartwood/hwlaw.StatAdds", spec := "statAdds", unfollowed := true, recurses := true, apart := false }
def StatAddsSaid : Prop := statAddsRow.holds Try.pinned (OpenSpec.ofChange statAddsSpec)

/-- ITS FALSE NEIGHBOUR: 'it returns false'. Refute it at one input. -/
def statAddsWrong : ChangeSpec := { name := "statAdds", fn := fun _ => fun
  | [d1, d2, d3] => { results := [.lit (.bool false)], args := [d1, d2, d3] }
  | _ => none }
def StatAddsWrongFalsely : Prop := statAddsRow.holds Try.pinned (OpenSpec.ofChange statAddsWrong)

/-- 'hwlaw.RankSays': WHATEVER THE INPUT: true; the input reads as it did. -/
def rankSaysSpec : ChangeSpec := { name := "rankSays", fn := fun _ => fun
  | [d1, d2, d3, d4] => { results := [.lit (.bool true)], args := [d1, d2, d3, d4] }
  | _ => none }
def rankSaysRow : OpenClaim := { program := "ytdnjbblejhojbaa", sum := "7489e64ad4cdd957aa55bd7226f12775547fbe37919ecfdf5a0213364e1e6961", func := "heartwood/hwlaw.RankSays", spec := "rankSays", unfollowed := true, recurses := true, apart := false }
def RankSaysSaid : Prop := rankSaysRow.holds Try.pinned (OpenSpec.ofChange rankSaysSpec)

/-- ITS FALSE NEIGHBOUR: 'it returns false'. Refute it at one input. -/
def rankSaysWrong : ChangeSpec := { name := "rankSays", fn := fun _ => fun
  | [d1, d2, d3, d4] => { results := [.lit (.bool false)], args := [d1, d2, d3, d4] }
  | _ => none }
def RankSaysWrongFalsely : Prop := rankSaysRow.holds Try.pinned (OpenSpec.ofChange rankSaysWrong)

/-- 'hwlaw.RankPuts': WHATEVER THE INPUT: true; the input reads as it did. -/
def rankPutsSpec : ChangeSpec := { name := "rankPuts", fn := fun _ => fun
  | [d1, d2] => { results := [.lit (.bool true)], args := [d1, d2] }
  | _ => none }
def rankPutsRow : OpenClaim := { program := "ytdnjbblejhojbaa", sum := "7489e64ad4cdd957aa55bd7226f12775547fbe37919ecfdf5a0213364e1e6961", func := "heartwood/hwlaw.RankPuts", spec := "rankPuts", unfollowed := true, recurses := true, apart := false }
def RankPutsSaid : Prop := rankPutsRow.holds Try.pinned (OpenSpec.ofChange rankPutsSpec)

/-- ITS FALSE NEIGHBOUR: 'it returns false'. Refute it at one input. -/
def rankPutsWrong : ChangeSpec := { name := "rankPuts", fn := fun _ => fun
  | [d1, d2] => { results := [.lit (.bool false)], args := [d1, d2] }
  | _ => none }
def RankPutsWrongFalsely : Prop := rankPutsRow.holds Try.pinned (OpenSpec.ofChange rankPutsWrong)

/-- 'hwlaw.TailSays': WHATEVER THE INPUT: true; the input reads as it did. -/
def tailSaysSpec : ChangeSpec := { name := "tailSays", fn := fun _ => fun
  | [d1, d2, d3] => { results := [.lit (.bool true)], args := [d1, d2, d3] }
  | _ => none }
def tailSaysRow : OpenClaim := { program := "ytdnjbblejhojbaa", sum := "7489e64ad4cdd957aa55bd7226f12775547fbe37919ecfdf5a0213364e1e6961", func := "heartwood/hwlaw.TailSays", spec := "tailSays", inPlace := ["math/bits.Add64", "math/bits.Sub64"], unfollowed := true, recurses := true, named := ["math/bits.divideError", "math/bits.overflowError"], apart := false }
def TailSaysSaid : Prop := tailSaysRow.holds Try.pinned (OpenSpec.ofChange tailSaysSpec)

/-- ITS FALSE NEIGHBOUR: 'it returns false'. Refute it at one input. -/
def tailSaysWrong : ChangeSpec := { name := "tailSays", fn := fun _ => fun
  | [d1, d2, d3] => { results := [.lit (.bool false)], args := [d1, d2, d3] }
  | _ => none }
def TailSaysWrongFalsely : Prop := tailSaysRow.holds Try.pinned (OpenSpec.ofChange tailSaysWrong)

/-- 'hwlaw.HistSays': WHATEVER THE INPUT: true; the input reads as it did. -/
def histSaysSpec : ChangeSpec := { name := "histSays", fn := fun _ => fun
  | [d1, d2, d3, d4, d5] => { results := [.lit (.bool true)], args := [d1, d2, d3, d4, d5] }
  | _ => none }
def histSaysRow : OpenClaim := { program := "ytdnjbblejhojbaa", sum := "7489e64ad4cdd957aa55bd7226f12775547fbe37919ecfdf5a0213364e1e6961", func := "heartwood/hwlaw.HistSays", spec := "histSays", unfollowed := true, recurses := true, apart := false }
def HistSaysSaid : Prop := histSaysRow.holds Try.pinned (OpenSpec.ofChange histSaysSpec)

/-- ITS FALSE NEIGHBOUR: 'it returns false'. Refute it at one input. -/
def histSaysWrong : ChangeSpec := { name := "histSays", fn := fun _ => fun
  | [d1, d2, d3, d4, d5] => { results := [.lit (.bool false)], args := [d1, d2, d3, d4, d5] }
  | _ => none }
def HistSaysWrongFalsely : Prop := histSaysRow.holds Try.pinned (OpenSpec.ofChange histSaysWrong)

/-- 'hwlaw.FadeSays': WHATEVER THE INPUT: true; the input reads as it did. -/
def fadeSaysSpec : ChangeSpec := { name := "fadeSays", fn := fun _ => fun
  | [d1, d2, d3, d4] => { results := [.lit (.bool true)], args := [d1, d2, d3, d4] }
  | _ => none }
def fadeSaysRow : OpenClaim := { program := "ytdnjbblejhojbaa", sum := "7489e64ad4cdd957aa55bd7226f12775547fbe37919ecfdf5a0213364e1e6961", func := "heartwood/hwlaw.FadeSays", spec := "fadeSays", unfollowed := true, recurses := true, apart := false }
def FadeSaysSaid : Prop := fadeSaysRow.holds Try.pinned (OpenSpec.ofChange fadeSaysSpec)

/-- ITS FALSE NEIGHBOUR: 'it returns false'. Refute it at one input. -/
def fadeSaysWrong : ChangeSpec := { name := "fadeSays", fn := fun _ => fun
  | [d1, d2, d3, d4] => { results := [.lit (.bool false)], args := [d1, d2, d3, d4] }
  | _ => none }
def FadeSaysWrongFalsely : Prop := fadeSaysRow.holds Try.pinned (OpenSpec.ofChange fadeSaysWrong)

/-- 'hwkeep.StatJoins': WHATEVER THE INPUT: true; the input reads as it did. -/
def statJoinsSpec : ChangeSpec := { name := "statJoins", fn := fun _ => fun
  | [d1, d2, d3] => { results := [.lit (.bool true)], args := [d1, d2, d3] }
  | _ => none }
def statJoinsRow : OpenClaim := { program := "ytdnjbblejhojbaa", sum := "7489e64ad4cdd957aa55bd7226f12775547fbe37919ecfdf5a0213364e1e6961", func := "heartwood/hwkeep.StatJoins", spec := "statJoins", unfollowed := true, recurses := true, apart := false }
def StatJoinsSaid : Prop := statJoinsRow.holds Try.pinned (OpenSpec.ofChange statJoinsSpec)

/-- ITS FALSE NEIGHBOUR: 'it returns false'. Refute it at one input. -/
def statJoinsWrong : ChangeSpec := { name := "statJoins", fn := fun _ => fun
  | [d1, d2, d3] => { results := [.lit (.bool false)], args := [d1, d2, d3] }
  | _ => none }
def StatJoinsWrongFalsely : Prop := statJoinsRow.holds Try.pinned (OpenSpec.ofChange statJoinsWrong)

/-- 'hwkeep.StatSamuelson': WHATEVER THE INPUT: true; the input reads as it did. -/
def statSamuelsonSpec : ChangeSpec := { name := "statSamuelson", fn := fun _ => fun
  | [d1, d2] => { results := [.lit (.bool true)], args := [d1, d2] }
  | _ => none }
def statSamuelsonRow : OpenClaim := { program := "ytdnjbblejhojbaa", sum := "7489e64ad4cdd957aa55bd7226f12775547fbe37919ecfdf5a0213364e1e6961", func := "heartwood/hwkeep.StatSamuelson", spec := "statSamuelson", inPlace := ["math/bits.Add64"], unfollowed := true, recurses := true, apart := false }
def StatSamuelsonSaid : Prop := statSamuelsonRow.holds Try.pinned (OpenSpec.ofChange statSamuelsonSpec)

/-- ITS FALSE NEIGHBOUR: 'it returns false'. Refute it at one input. -/
def statSamuelsonWrong : ChangeSpec := { name := "statSamuelson", fn := fun _ => fun
  | [d1, d2] => { results := [.lit (.bool false)], args := [d1, d2] }
  | _ => none }
def StatSamuelsonWrongFalsely : Prop := statSamuelsonRow.holds Try.pinned (OpenSpec.ofChange statSamuelsonWrong)

/-- 'hwkeep.TailCantelli': WHATEVER THE INPUT: true; the input reads as it did. -/
def tailCantelliSpec : ChangeSpec := { name := "tailCantelli", fn := fun _ => fun
  | [d1, d2, d3] => { results := [.lit (.bool true)], args := [d1, d2, d3] }
  | _ => none }
def tailCantelliRow : OpenClaim := { program := "ytdnjbblejhojbaa", sum := "7489e64ad4cdd957aa55bd7226f12775547fbe37919ecfdf5a0213364e1e6961", func := "heartwood/hwkeep.TailCantelli", spec := "tailCantelli", inPlace := ["math/bits.Add64", "math/bits.Sub64"], unfollowed := true, recurses := true, named := ["math/bits.divideError", "math/bits.overflowError"], apart := false }
def TailCantelliSaid : Prop := tailCantelliRow.holds Try.pinned (OpenSpec.ofChange tailCantelliSpec)

/-- ITS FALSE NEIGHBOUR: 'it returns false'. Refute it at one input. -/
def tailCantelliWrong : ChangeSpec := { name := "tailCantelli", fn := fun _ => fun
  | [d1, d2, d3] => { results := [.lit (.bool false)], args := [d1, d2, d3] }
  | _ => none }
def TailCantelliWrongFalsely : Prop := tailCantelliRow.holds Try.pinned (OpenSpec.ofChange tailCantelliWrong)

/-- 'hwkeep.HistCounts': WHATEVER THE INPUT: true; the input reads as it did. -/
def histCountsSpec : ChangeSpec := { name := "histCounts", fn := fun _ => fun
  | [d1, d2, d3, d4, d5] => { results := [.lit (.bool true)], args := [d1, d2, d3, d4, d5] }
  | _ => none }
def histCountsRow : OpenClaim := { program := "ytdnjbblejhojbaa", sum := "7489e64ad4cdd957aa55bd7226f12775547fbe37919ecfdf5a0213364e1e6961", func := "heartwood/hwkeep.HistCounts", spec := "histCounts", unfollowed := true, recurses := true, apart := false }
def HistCountsSaid : Prop := histCountsRow.holds Try.pinned (OpenSpec.ofChange histCountsSpec)

/-- ITS FALSE NEIGHBOUR: 'it returns false'. Refute it at one input. -/
def histCountsWrong : ChangeSpec := { name := "histCounts", fn := fun _ => fun
  | [d1, d2, d3, d4, d5] => { results := [.lit (.bool false)], args := [d1, d2, d3, d4, d5] }
  | _ => none }
def HistCountsWrongFalsely : Prop := histCountsRow.holds Try.pinned (OpenSpec.ofChange histCountsWrong)

/-- 'hwkeep.FadeBetween': WHATEVER THE INPUT: true; the input reads as it did. -/
def fadeBetweenSpec : ChangeSpec := { name := "fadeBetween", fn := fun _ => fun
  | [d1, d2, d3, d4] => { results := [.lit (.bool true)], args := [d1, d2, d3, d4] }
  | _ => none }
def fadeBetweenRow : OpenClaim := { program := "ytdnjbblejhojbaa", sum := "7489e64ad4cdd957aa55bd7226f12775547fbe37919ecfdf5a0213364e1e6961", func := "heartwood/hwkeep.FadeBetween", spec := "fadeBetween", unfollowed := true, recurses := true, apart := false }
def FadeBetweenSaid : Prop := fadeBetweenRow.holds Try.pinned (OpenSpec.ofChange fadeBetweenSpec)

/-- ITS FALSE NEIGHBOUR: 'it returns false'. Refute it at one input. -/
def fadeBetweenWrong : ChangeSpec := { name := "fadeBetween", fn := fun _ => fun
  | [d1, d2, d3, d4] => { results := [.lit (.bool false)], args := [d1, d2, d3, d4] }
  | _ => none }
def FadeBetweenWrongFalsely : Prop := fadeBetweenRow.holds Try.pinned (OpenSpec.ofChange fadeBetweenWrong)

/-- 'hwkeep.FadeNearer': WHATEVER THE INPUT: true; the input reads as it did. -/
def fadeNearerSpec : ChangeSpec := { name := "fadeNearer", fn := fun _ => fun
  | [d1, d2, d3, d4, d5] => { results := [.lit (.bool true)], args := [d1, d2, d3, d4, d5] }
  | _ => none }
def fadeNearerRow : OpenClaim := { program := "ytdnjbblejhojbaa", sum := "7489e64ad4cdd957aa55bd7226f12775547fbe37919ecfdf5a0213364e1e6961", func := "heartwood/hwkeep.FadeNearer", spec := "fadeNearer", unfollowed := true, recurses := true, apart := false }
def FadeNearerSaid : Prop := fadeNearerRow.holds Try.pinned (OpenSpec.ofChange fadeNearerSpec)

/-- ITS FALSE NEIGHBOUR: 'it returns false'. Refute it at one input. -/
def fadeNearerWrong : ChangeSpec := { name := "fadeNearer", fn := fun _ => fun
  | [d1, d2, d3, d4, d5] => { results := [.lit (.bool false)], args := [d1, d2, d3, d4, d5] }
  | _ => none }
def FadeNearerWrongFalsely : Prop := fadeNearerRow.holds Try.pinned (OpenSpec.ofChange fadeNearerWrong)

/-- 'hwkeep.TailBoth': WHATEVER THE INPUT: true; the input reads as it did. -/
def tailBothSpec : ChangeSpec := { name := "tailBoth", fn := fun _ => fun
  | [d1, d2] => { results := [.lit (.bool true)], args := [d1, d2] }
  | _ => none }
def tailBothRow : OpenClaim := { program := "ytdnjbblejhojbaa", sum := "7489e64ad4cdd957aa55bd7226f12775547fbe37919ecfdf5a0213364e1e6961", func := "heartwood/hwkeep.TailBoth", spec := "tailBoth", inPlace := ["math/bits.Add64", "math/bits.Sub64"], unfollowed := true, recurses := true, named := ["math/bits.divideError", "math/bits.overflowError"], apart := false }
def TailBothSaid : Prop := tailBothRow.holds Try.pinned (OpenSpec.ofChange tailBothSpec)

/-- ITS FALSE NEIGHBOUR: 'it returns false'. Refute it at one input. -/
def tailBothWrong : ChangeSpec := { name := "tailBoth", fn := fun _ => fun
  | [d1, d2] => { results := [.lit (.bool false)], args := [d1, d2] }
  | _ => none }
def TailBothWrongFalsely : Prop := tailBothRow.holds Try.pinned (OpenSpec.ofChange tailBothWrong)

/-- 'hwkeep.HistGrows': WHATEVER THE INPUT: true; the input reads as it did. -/
def histGrowsSpec : ChangeSpec := { name := "histGrows", fn := fun _ => fun
  | [d1, d2, d3, d4] => { results := [.lit (.bool true)], args := [d1, d2, d3, d4] }
  | _ => none }
def histGrowsRow : OpenClaim := { program := "ytdnjbblejhojbaa", sum := "7489e64ad4cdd957aa55bd7226f12775547fbe37919ecfdf5a0213364e1e6961", func := "heartwood/hwkeep.HistGrows", spec := "histGrows", unfollowed := true, recurses := true, apart := false }
def HistGrowsSaid : Prop := histGrowsRow.holds Try.pinned (OpenSpec.ofChange histGrowsSpec)

/-- ITS FALSE NEIGHBOUR: 'it returns false'. Refute it at one input. -/
def histGrowsWrong : ChangeSpec := { name := "histGrows", fn := fun _ => fun
  | [d1, d2, d3, d4] => { results := [.lit (.bool false)], args := [d1, d2, d3, d4] }
  | _ => none }
def HistGrowsWrongFalsely : Prop := histGrowsRow.holds Try.pinned (OpenSpec.ofChange histGrowsWrong)

/-- 'hwkeep.FadeSame': WHATEVER THE INPUT: true; the input reads as it did. -/
def fadeSameSpec : ChangeSpec := { name := "fadeSame", fn := fun _ => fun
  | [d1, d2, d3, d4, d5] => { results := [.lit (.bool true)], args := [d1, d2, d3, d4, d5] }
  | _ => none }
def fadeSameRow : OpenClaim := { program := "ytdnjbblejhojbaa", sum := "7489e64ad4cdd957aa55bd7226f12775547fbe37919ecfdf5a0213364e1e6961", func := "heartwood/hwkeep.FadeSame", spec := "fadeSame", unfollowed := true, recurses := true, apart := false }
def FadeSameSaid : Prop := fadeSameRow.holds Try.pinned (OpenSpec.ofChange fadeSameSpec)

/-- ITS FALSE NEIGHBOUR: 'it returns false'. Refute it at one input. -/
def fadeSameWrong : ChangeSpec := { name := "fadeSame", fn := fun _ => fun
  | [d1, d2, d3, d4, d5] => { results := [.lit (.bool false)], args := [d1, d2, d3, d4, d5] }
  | _ => none }
def FadeSameWrongFalsely : Prop := fadeSameRow.holds Try.pinned (OpenSpec.ofChange fadeSameWrong)

/-- 'hwtop.TopTails': WHATEVER THE INPUT: true; the input reads as it did. -/
def topTailsSpec : ChangeSpec := { name := "topTails", fn := fun _ => fun
  | [d1, d2] => { results := [.lit (.bool true)], args := [d1, d2] }
  | _ => none }
def topTailsRow : OpenClaim := { program := "ytdnjbblejhojbaa", sum := "7489e64ad4cdd957aa55bd7226f12775547fbe37919ecfdf5a0213364e1e6961", func := "heartwood/hwtop.TopTails", spec := "topTails", inPlace := ["math/bits.Add64", "math/bits.Sub64"], unfollowed := true, recurses := true, named := ["math/bits.divideError", "math/bits.overflowError"], apart := false }
def TopTailsSaid : Prop := topTailsRow.holds Try.pinned (OpenSpec.ofChange topTailsSpec)

/-- ITS FALSE NEIGHBOUR: 'it returns false'. Refute it at one input. -/
def topTailsWrong : ChangeSpec := { name := "topTails", fn := fun _ => fun
  | [d1, d2] => { results := [.lit (.bool false)], args := [d1, d2] }
  | _ => none }
def TopTailsWrongFalsely : Prop := topTailsRow.holds Try.pinned (OpenSpec.ofChange topTailsWrong)

/- THE SECOND FORM. 'bulk': how many values and letters a reading holds, each counted each time it is reached (what is shared counts as often as it is met; a slice's spare places count too). A statement '..UptoSaid' is the law's where the arguments, and the package variables that the reading takes, are together of bulk at most 1048576: NARROWER than '..Said'. Prove '..Said' where nothing that the law and all that it calls make is longer than what came in: it says more and counts as full. Else prove '..UptoSaid'. A law counts once. -/
mutual
def uptoBulk {H : Type} : DataW H → Nat
  | .lit (.string bytes) => bytes.length + 1
  | .lit _ => 1
  | .nil => 1
  | .ptr d => uptoBulk d + 1
  | .slice elems spare => uptoBulkAll elems + uptoBulkAll spare + 1
  | .agg parts => uptoBulkAll parts + 1
  | .iface _ d => uptoBulk d + 1
  | .map entries => uptoBulkEntries entries + 1
  | .held _ => 1
def uptoBulkAll {H : Type} : List (DataW H) → Nat
  | [] => 0
  | d :: r => uptoBulk d + uptoBulkAll r
def uptoBulkEntries {H : Type} : List (Lit × DataW H) → Nat
  | [] => 0
  | x :: r => uptoBulkEntry x + uptoBulkEntries r
def uptoBulkEntry {H : Type} : Lit × DataW H → Nat
  | (.string bytes, d) => bytes.length + uptoBulk d + 1
  | (_, d) => uptoBulk d + 1
 end
def uptoSmall : (H : Type) → List (DataW H) → Bool := fun _ ds => decide (uptoBulkAll ds ≤ 1048576)
def OpenSpec.upto (s : _root_.Go.ChangeSpec) : _root_.Go.OpenSpec := { _root_.Go.OpenSpec.ofChange s with cond := some uptoSmall }

/-- 'hwlaw.StatAdds', WHERE WHAT IT READS IS OF BULK AT MOST 1048576: true; the input reads as it did. -/
def statAddsUptoRow : OpenClaim := { program := "ytdnjbblejhojbaa", sum := "7489e64ad4cdd957aa55bd7226f12775547fbe37919ecfdf5a0213364e1e6961", func := "heartwood/hwlaw.StatAdds", spec := "statAdds", unfollowed := true, recurses := true, apart := false, narrowed := true }
def StatAddsUptoSaid : Prop := statAddsUptoRow.holds Try.pinned (OpenSpec.upto statAddsSpec)

/-- 'hwlaw.RankSays', WHERE WHAT IT READS IS OF BULK AT MOST 1048576: true; the input reads as it did. -/
def rankSaysUptoRow : OpenClaim := { program := "ytdnjbblejhojbaa", sum := "7489e64ad4cdd957aa55bd7226f12775547fbe37919ecfdf5a0213364e1e6961", func := "heartwood/hwlaw.RankSays", spec := "rankSays", unfollowed := true, recurses := true, apart := false, narrowed := true }
def RankSaysUptoSaid : Prop := rankSaysUptoRow.holds Try.pinned (OpenSpec.upto rankSaysSpec)

/-- 'hwlaw.RankPuts', WHERE WHAT IT READS IS OF BULK AT MOST 1048576: true; the input reads as it did. -/
def rankPutsUptoRow : OpenClaim := { program := "ytdnjbblejhojbaa", sum := "7489e64ad4cdd957aa55bd7226f12775547fbe37919ecfdf5a0213364e1e6961", func := "heartwood/hwlaw.RankPuts", spec := "rankPuts", unfollowed := true, recurses := true, apart := false, narrowed := true }
def RankPutsUptoSaid : Prop := rankPutsUptoRow.holds Try.pinned (OpenSpec.upto rankPutsSpec)

/-- 'hwlaw.TailSays', WHERE WHAT IT READS IS OF BULK AT MOST 1048576: true; the input reads as it did. -/
def tailSaysUptoRow : OpenClaim := { program := "ytdnjbblejhojbaa", sum := "7489e64ad4cdd957aa55bd7226f12775547fbe37919ecfdf5a0213364e1e6961", func := "heartwood/hwlaw.TailSays", spec := "tailSays", inPlace := ["math/bits.Add64", "math/bits.Sub64"], unfollowed := true, recurses := true, named := ["math/bits.divideError", "math/bits.overflowError"], apart := false, narrowed := true }
def TailSaysUptoSaid : Prop := tailSaysUptoRow.holds Try.pinned (OpenSpec.upto tailSaysSpec)

/-- 'hwlaw.HistSays', WHERE WHAT IT READS IS OF BULK AT MOST 1048576: true; the input reads as it did. -/
def histSaysUptoRow : OpenClaim := { program := "ytdnjbblejhojbaa", sum := "7489e64ad4cdd957aa55bd7226f12775547fbe37919ecfdf5a0213364e1e6961", func := "heartwood/hwlaw.HistSays", spec := "histSays", unfollowed := true, recurses := true, apart := false, narrowed := true }
def HistSaysUptoSaid : Prop := histSaysUptoRow.holds Try.pinned (OpenSpec.upto histSaysSpec)

/-- 'hwlaw.FadeSays', WHERE WHAT IT READS IS OF BULK AT MOST 1048576: true; the input reads as it did. -/
def fadeSaysUptoRow : OpenClaim := { program := "ytdnjbblejhojbaa", sum := "7489e64ad4cdd957aa55bd7226f12775547fbe37919ecfdf5a0213364e1e6961", func := "heartwood/hwlaw.FadeSays", spec := "fadeSays", unfollowed := true, recurses := true, apart := false, narrowed := true }
def FadeSaysUptoSaid : Prop := fadeSaysUptoRow.holds Try.pinned (OpenSpec.upto fadeSaysSpec)

/-- 'hwkeep.StatJoins', WHERE WHAT IT READS IS OF BULK AT MOST 1048576: true; the input reads as it did. -/
def statJoinsUptoRow : OpenClaim := { program := "ytdnjbblejhojbaa", sum := "7489e64ad4cdd957aa55bd7226f12775547fbe37919ecfdf5a0213364e1e6961", func := "heartwood/hwkeep.StatJoins", spec := "statJoins", unfollowed := true, recurses := true, apart := false, narrowed := true }
def StatJoinsUptoSaid : Prop := statJoinsUptoRow.holds Try.pinned (OpenSpec.upto statJoinsSpec)

/-- 'hwkeep.StatSamuelson', WHERE WHAT IT READS IS OF BULK AT MOST 1048576: true; the input reads as it did. -/
def statSamuelsonUptoRow : OpenClaim := { program := "ytdnjbblejhojbaa", sum := "7489e64ad4cdd957aa55bd7226f12775547fbe37919ecfdf5a0213364e1e6961", func := "heartwood/hwkeep.StatSamuelson", spec := "statSamuelson", inPlace := ["math/bits.Add64"], unfollowed := true, recurses := true, apart := false, narrowed := true }
def StatSamuelsonUptoSaid : Prop := statSamuelsonUptoRow.holds Try.pinned (OpenSpec.upto statSamuelsonSpec)

/-- 'hwkeep.TailCantelli', WHERE WHAT IT READS IS OF BULK AT MOST 1048576: true; the input reads as it did. -/
def tailCantelliUptoRow : OpenClaim := { program := "ytdnjbblejhojbaa", sum := "7489e64ad4cdd957aa55bd7226f12775547fbe37919ecfdf5a0213364e1e6961", func := "heartwood/hwkeep.TailCantelli", spec := "tailCantelli", inPlace := ["math/bits.Add64", "math/bits.Sub64"], unfollowed := true, recurses := true, named := ["math/bits.divideError", "math/bits.overflowError"], apart := false, narrowed := true }
def TailCantelliUptoSaid : Prop := tailCantelliUptoRow.holds Try.pinned (OpenSpec.upto tailCantelliSpec)

/-- 'hwkeep.HistCounts', WHERE WHAT IT READS IS OF BULK AT MOST 1048576: true; the input reads as it did. -/
def histCountsUptoRow : OpenClaim := { program := "ytdnjbblejhojbaa", sum := "7489e64ad4cdd957aa55bd7226f12775547fbe37919ecfdf5a0213364e1e6961", func := "heartwood/hwkeep.HistCounts", spec := "histCounts", unfollowed := true, recurses := true, apart := false, narrowed := true }
def HistCountsUptoSaid : Prop := histCountsUptoRow.holds Try.pinned (OpenSpec.upto histCountsSpec)

/-- 'hwkeep.FadeBetween', WHERE WHAT IT READS IS OF BULK AT MOST 1048576: true; the input reads as it did. -/
def fadeBetweenUptoRow : OpenClaim := { program := "ytdnjbblejhojbaa", sum := "7489e64ad4cdd957aa55bd7226f12775547fbe37919ecfdf5a0213364e1e6961", func := "heartwood/hwkeep.FadeBetween", spec := "fadeBetween", unfollowed := true, recurses := true, apart := false, narrowed := true }
def FadeBetweenUptoSaid : Prop := fadeBetweenUptoRow.holds Try.pinned (OpenSpec.upto fadeBetweenSpec)

/-- 'hwkeep.FadeNearer', WHERE WHAT IT READS IS OF BULK AT MOST 1048576: true; the input reads as it did. -/
def fadeNearerUptoRow : OpenClaim := { program := "ytdnjbblejhojbaa", sum := "7489e64ad4cdd957aa55bd7226f12775547fbe37919ecfdf5a0213364e1e6961", func := "heartwood/hwkeep.FadeNearer", spec := "fadeNearer", unfollowed := true, recurses := true, apart := false, narrowed := true }
def FadeNearerUptoSaid : Prop := fadeNearerUptoRow.holds Try.pinned (OpenSpec.upto fadeNearerSpec)

/-- 'hwkeep.TailBoth', WHERE WHAT IT READS IS OF BULK AT MOST 1048576: true; the input reads as it did. -/
def tailBothUptoRow : OpenClaim := { program := "ytdnjbblejhojbaa", sum := "7489e64ad4cdd957aa55bd7226f12775547fbe37919ecfdf5a0213364e1e6961", func := "heartwood/hwkeep.TailBoth", spec := "tailBoth", inPlace := ["math/bits.Add64", "math/bits.Sub64"], unfollowed := true, recurses := true, named := ["math/bits.divideError", "math/bits.overflowError"], apart := false, narrowed := true }
def TailBothUptoSaid : Prop := tailBothUptoRow.holds Try.pinned (OpenSpec.upto tailBothSpec)

/-- 'hwkeep.HistGrows', WHERE WHAT IT READS IS OF BULK AT MOST 1048576: true; the input reads as it did. -/
def histGrowsUptoRow : OpenClaim := { program := "ytdnjbblejhojbaa", sum := "7489e64ad4cdd957aa55bd7226f12775547fbe37919ecfdf5a0213364e1e6961", func := "heartwood/hwkeep.HistGrows", spec := "histGrows", unfollowed := true, recurses := true, apart := false, narrowed := true }
def HistGrowsUptoSaid : Prop := histGrowsUptoRow.holds Try.pinned (OpenSpec.upto histGrowsSpec)

/-- 'hwkeep.FadeSame', WHERE WHAT IT READS IS OF BULK AT MOST 1048576: true; the input reads as it did. -/
def fadeSameUptoRow : OpenClaim := { program := "ytdnjbblejhojbaa", sum := "7489e64ad4cdd957aa55bd7226f12775547fbe37919ecfdf5a0213364e1e6961", func := "heartwood/hwkeep.FadeSame", spec := "fadeSame", unfollowed := true, recurses := true, apart := false, narrowed := true }
def FadeSameUptoSaid : Prop := fadeSameUptoRow.holds Try.pinned (OpenSpec.upto fadeSameSpec)

/-- 'hwtop.TopTails', WHERE WHAT IT READS IS OF BULK AT MOST 1048576: true; the input reads as it did. -/
def topTailsUptoRow : OpenClaim := { program := "ytdnjbblejhojbaa", sum := "7489e64ad4cdd957aa55bd7226f12775547fbe37919ecfdf5a0213364e1e6961", func := "heartwood/hwtop.TopTails", spec := "topTails", inPlace := ["math/bits.Add64", "math/bits.Sub64"], unfollowed := true, recurses := true, named := ["math/bits.divideError", "math/bits.overflowError"], apart := false, narrowed := true }
def TopTailsUptoSaid : Prop := topTailsUptoRow.holds Try.pinned (OpenSpec.upto topTailsSpec)

end Rows
end Go.Proofs.Ytdnjbblejhojbaa
