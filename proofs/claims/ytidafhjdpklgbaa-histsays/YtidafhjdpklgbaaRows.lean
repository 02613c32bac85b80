/-
  No cell of these rows narrows 'for every input' (looked for: loops, veiled, ifaces, maps, wideKeys, modest, calm, conditions, laid).
  DERIVED. THE GIVEN ROWS OF THIS SEAT. 12 by the template 'for every input the law returns true; each argument reads behind the call as it read before'; 0 by the template 'total and deterministic' (their statements: YtidafhjdpklgbaaTotals.lean).
  GIVEN WITH THE SEED: the statements are not yours to turn. If you find one false, say at which input.
  Laid BY PROGRAM, IN A SANDBOX (cutbox-rows.mjs): the forced cells as the released guide's own fill.sh prints them over the translation 946c28ea01e6cf44… (all of the seat's roots in one cut). By AI agents, Wed Nov 11 2026. No macro, syntax, notation, axiom, sorry.
-/
import Derived.Test.YtidafhjdpklgbaaChecked
import GoSem.Claim
import GoSem.ClaimJoined
import GoSem.ClaimMapViews
import Derived.JoinedTies
import Derived.KernelRfl
namespace Go.Proofs.Ytidafhjdpklgbaa
/- THE CELL 'sum', in the pinned program and in every row, IS THE sha256 OF THE DUMP (.gsa) THAT YtidafhjdpklgbaaProg.lean LOADS. Nothing in Lean hashes anything: it is a label: what it is worth is what the hold of that sum in a sandbox is worth. -/
noncomputable def Try.pinned : Pinned := { name := "ytidafhjdpklgbaa", sum := "946c28ea01e6cf44b84b4cb5e84d87424050563ca30b9f133c5f51725e809645", checked := Try.checked }
namespace Rows
def none {H : Type} : Left H := { results := [], args := [] }

/-- 'hwlaw.HistSays': WHATEVER THE INPUT: true; the input reads as it did. -/
def histSaysSpec : ChangeSpec := { name := "histSays", fn := fun _ => fun
  | [d1, d2, d3, d4, d5] => { results := [.lit (.bool true)], args := [d1, d2, d3, d4, d5] }
  | _ => none }
def histSaysRow : OpenClaim := { program := "ytidafhjdpklgbaa", sum := "946c28ea01e6cf44b84b4cb5e84d87424050563ca30b9f133c5f51725e809645", func := "heartwood/hwlaw.HistSays", spec := "histSays", unfollowed := true, recurses := true, apart := false }
def HistSaysSaid : Prop := histSaysRow.holds Try.pinned (OpenSpec.ofChange histSaysSpec)

/-- ITS FALSE NEIGHBOUR: 'it returns false'. Refute it at one input. -/
def histSaysWrong : ChangeSpec := { name := "histSays", fn := fun _ => fun
  | [d1, d2, d3, d4, d5] => { results := [.lit (.bool false)], args := [d1, d2, d3, d4, d5] }
  | _ => none }
def HistSaysWrongFalsely : Prop := histSaysRow.holds Try.pinned (OpenSpec.ofChange histSaysWrong)

/-- 'hwlaw.LevelSays': WHATEVER THE INPUT: true; the input reads as it did. -/
def levelSaysSpec : ChangeSpec := { name := "levelSays", fn := fun _ => fun
  | [d1, d2, d3, d4] => { results := [.lit (.bool true)], args := [d1, d2, d3, d4] }
  | _ => none }
def levelSaysRow : OpenClaim := { program := "ytidafhjdpklgbaa", sum := "946c28ea01e6cf44b84b4cb5e84d87424050563ca30b9f133c5f51725e809645", func := "heartwood/hwlaw.LevelSays", spec := "levelSays", inPlace := ["math/bits.Add64"], unfollowed := true, recurses := true, apart := false }
def LevelSaysSaid : Prop := levelSaysRow.holds Try.pinned (OpenSpec.ofChange levelSaysSpec)

/-- ITS FALSE NEIGHBOUR: 'it returns false'. Refute it at one input. -/
def levelSaysWrong : ChangeSpec := { name := "levelSays", fn := fun _ => fun
  | [d1, d2, d3, d4] => { results := [.lit (.bool false)], args := [d1, d2, d3, d4] }
  | _ => none }
def LevelSaysWrongFalsely : Prop := levelSaysRow.holds Try.pinned (OpenSpec.ofChange levelSaysWrong)

/-- 'hwkeep.HistCounts': WHATEVER THE INPUT: true; the input reads as it did. -/
def histCountsSpec : ChangeSpec := { name := "histCounts", fn := fun _ => fun
  | [d1, d2, d3, d4, d5] => { results := [.lit (.bool true)], args := [d1, d2, d3, d4, d5] }
  | _ => none }
def histCountsRow : OpenClaim := { program := "ytidafhjdpklgbaa", sum := "946c28ea01e6cf44b84b4cb5e84d87424050563ca30b9f133c5f51725e809645", func := "heartwood/hwkeep.HistCounts", spec := "histCounts", unfollowed := true, recurses := true, apart := false }
def HistCountsSaid : Prop := histCountsRow.holds Try.pinned (OpenSpec.ofChange histCountsSpec)

/-- ITS FALSE NEIGHBOUR: 'it returns false'. Refute it at one input. -/
def histCountsWrong : ChangeSpec := { name := "histCounts", fn := fun _ => fun
  | [d1, d2, d3, d4, d5] => { results := [.lit (.bool false)], args := [d1, d2, d3, d4, d5] }
  | _ => none }
def HistCountsWrongFalsely : Prop := histCountsRow.holds Try.pinned (OpenSpec.ofChange histCountsWrong)

/-- 'hwkeep.LevelGrows': WHATEVER THE INPUT: true; the input reads as it did. -/
def levelGrowsSpec : ChangeSpec := { name := "levelGrows", fn := fun _ => fun
  | [d1, d2, d3, d4] => { results := [.lit (.bool true)], args := [d1, d2, d3, d4] }
  | _ => none }
def levelGrowsRow : OpenClaim := { program := "ytidafhjdpklgbaa", sum := "946c28ea01e6cf44b84b4cb5e84d87424050563ca30b9f133c5f51725e809645", func := "heartwood/hwkeep.LevelGrows", spec := "levelGrows", inPlace := ["math/bits.Add64"], unfollowed := true, recurses := true, apart := false }
def LevelGrowsSaid : Prop := levelGrowsRow.holds Try.pinned (OpenSpec.ofChange levelGrowsSpec)

/-- ITS FALSE NEIGHBOUR: 'it returns false'. Refute it at one input. -/
def levelGrowsWrong : ChangeSpec := { name := "levelGrows", fn := fun _ => fun
  | [d1, d2, d3, d4] => { results := [.lit (.bool false)], args := [d1, d2, d3, d4] }
  | _ => none }
def LevelGrowsWrongFalsely : Prop := levelGrowsRow.holds Try.pinned (OpenSpec.ofChange levelGrowsWrong)

/-- 'hwkeep.LevelIs': WHATEVER THE INPUT: true; the input reads as it did. -/
def levelIsSpec : ChangeSpec := { name := "levelIs", fn := fun _ => fun
  | [d1, d2, d3, d4] => { results := [.lit (.bool true)], args := [d1, d2, d3, d4] }
  | _ => none }
def levelIsRow : OpenClaim := { program := "ytidafhjdpklgbaa", sum := "946c28ea01e6cf44b84b4cb5e84d87424050563ca30b9f133c5f51725e809645", func := "heartwood/hwkeep.LevelIs", spec := "levelIs", inPlace := ["math/bits.Add64"], unfollowed := true, recurses := true, apart := false }
def LevelIsSaid : Prop := levelIsRow.holds Try.pinned (OpenSpec.ofChange levelIsSpec)

/-- ITS FALSE NEIGHBOUR: 'it returns false'. Refute it at one input. -/
def levelIsWrong : ChangeSpec := { name := "levelIs", fn := fun _ => fun
  | [d1, d2, d3, d4] => { results := [.lit (.bool false)], args := [d1, d2, d3, d4] }
  | _ => none }
def LevelIsWrongFalsely : Prop := levelIsRow.holds Try.pinned (OpenSpec.ofChange levelIsWrong)

/-- 'hwkeep.LevelCantelli': WHATEVER THE INPUT: true; the input reads as it did. -/
def levelCantelliSpec : ChangeSpec := { name := "levelCantelli", fn := fun _ => fun
  | [d1, d2, d3] => { results := [.lit (.bool true)], args := [d1, d2, d3] }
  | _ => none }
def levelCantelliRow : OpenClaim := { program := "ytidafhjdpklgbaa", sum := "946c28ea01e6cf44b84b4cb5e84d87424050563ca30b9f133c5f51725e809645", func := "heartwood/hwkeep.LevelCantelli", spec := "levelCantelli", inPlace := ["math/bits.Add64"], unfollowed := true, recurses := true, apart := false }
def LevelCantelliSaid : Prop := levelCantelliRow.holds Try.pinned (OpenSpec.ofChange levelCantelliSpec)

/-- ITS FALSE NEIGHBOUR: 'it returns false'. Refute it at one input. -/
def levelCantelliWrong : ChangeSpec := { name := "levelCantelli", fn := fun _ => fun
  | [d1, d2, d3] => { results := [.lit (.bool false)], args := [d1, d2, d3] }
  | _ => none }
def LevelCantelliWrongFalsely : Prop := levelCantelliRow.holds Try.pinned (OpenSpec.ofChange levelCantelliWrong)

/-- 'hwkeep.LevelWhen': WHATEVER THE INPUT: true; the input reads as it did. -/
def levelWhenSpec : ChangeSpec := { name := "levelWhen", fn := fun _ => fun
  | [d1, d2, d3, d4, d5] => { results := [.lit (.bool true)], args := [d1, d2, d3, d4, d5] }
  | _ => none }
def levelWhenRow : OpenClaim := { program := "ytidafhjdpklgbaa", sum := "946c28ea01e6cf44b84b4cb5e84d87424050563ca30b9f133c5f51725e809645", func := "heartwood/hwkeep.LevelWhen", spec := "levelWhen", inPlace := ["math/bits.Add64"], unfollowed := true, recurses := true, apart := false }
def LevelWhenSaid : Prop := levelWhenRow.holds Try.pinned (OpenSpec.ofChange levelWhenSpec)

/-- ITS FALSE NEIGHBOUR: 'it returns false'. Refute it at one input. -/
def levelWhenWrong : ChangeSpec := { name := "levelWhen", fn := fun _ => fun
  | [d1, d2, d3, d4, d5] => { results := [.lit (.bool false)], args := [d1, d2, d3, d4, d5] }
  | _ => none }
def LevelWhenWrongFalsely : Prop := levelWhenRow.holds Try.pinned (OpenSpec.ofChange levelWhenWrong)

/-- 'hwkeep.LevelLeast': WHATEVER THE INPUT: true; the input reads as it did. -/
def levelLeastSpec : ChangeSpec := { name := "levelLeast", fn := fun _ => fun
  | [d1, d2, d3, d4, d5] => { results := [.lit (.bool true)], args := [d1, d2, d3, d4, d5] }
  | _ => none }
def levelLeastRow : OpenClaim := { program := "ytidafhjdpklgbaa", sum := "946c28ea01e6cf44b84b4cb5e84d87424050563ca30b9f133c5f51725e809645", func := "heartwood/hwkeep.LevelLeast", spec := "levelLeast", inPlace := ["math/bits.Add64"], unfollowed := true, recurses := true, apart := false }
def LevelLeastSaid : Prop := levelLeastRow.holds Try.pinned (OpenSpec.ofChange levelLeastSpec)

/-- ITS FALSE NEIGHBOUR: 'it returns false'. Refute it at one input. -/
def levelLeastWrong : ChangeSpec := { name := "levelLeast", fn := fun _ => fun
  | [d1, d2, d3, d4, d5] => { results := [.lit (.bool false)], args := [d1, d2, d3, d4, d5] }
  | _ => none }
def LevelLeastWrongFalsely : Prop := levelLeastRow.holds Try.pinned (OpenSpec.ofChange levelLeastWrong)

/-- 'hwkeep.HistGrows': WHATEVER THE INPUT: true; the input reads as it did. -/
def histGrowsSpec : ChangeSpec := { name := "histGrows", fn := fun _ => fun
  | [d1, d2, d3, d4] => { results := [.lit (.bool true)], args := [d1, d2, d3, d4] }
  | _ => none }
def histGrowsRow : OpenClaim := { program := "ytidafhjdpklgbaa", sum := "946c28ea01e6cf44b84b4cb5e84d87424050563ca30b9f133c5f51725e809645", func := "heartwood/hwkeep.HistGrows", spec := "histGrows", unfollowed := true, recurses := true, apart := false }
def HistGrowsSaid : Prop := histGrowsRow.holds Try.pinned (OpenSpec.ofChange histGrowsSpec)

/-- ITS FALSE NEIGHBOUR: 'it returns false'. Refute it at one input. -/
def histGrowsWrong : ChangeSpec := { name := "histGrows", fn := fun _ => fun
  | [d1, d2, d3, d4] => { results := [.lit (.bool false)], args := [d1, d2, d3, d4] }
  | _ => none }
def HistGrowsWrongFalsely : Prop := histGrowsRow.holds Try.pinned (OpenSpec.ofChange histGrowsWrong)

/-- 'hwkeep.FadeSame': WHATEVER THE INPUT: true; the input reads as it did. -/
def fadeSameSpec : ChangeSpec := { name := "fadeSame", fn := fun _ => fun
  | [d1, d2, d3, d4, d5] => { results := [.lit (.bool true)], args := [d1, d2, d3, d4, d5] }
  | _ => none }
def fadeSameRow : OpenClaim := { program := "ytidafhjdpklgbaa", sum := "946c28ea01e6cf44b84b4cb5e84d87424050563ca30b9f133c5f51725e809645", func := "heartwood/hwkeep.FadeSame", spec := "fadeSame", unfollowed := true, recurses := true, apart := false }
def FadeSameSaid : Prop := fadeSameRow.holds Try.pinned (OpenSpec.ofChange fadeSameSpec)

/-- ITS FALSE NEIGHBOUR: 'it returns false'. Refute it at one input. -/
def fadeSameWrong : ChangeSpec := { name := "fadeSame", fn := fun _ => fun
  | [d1, d2, d3, d4, d5] => { results := [.lit (.bool false)], args := [d1, d2, d3, d4, d5] }
  | _ => none }
def FadeSameWrongFalsely : Prop := fadeSameRow.holds Try.pinned (OpenSpec.ofChange fadeSameWrong)

/-- 'hwkeep.LevelMoved': WHATEVER THE INPUT: true; the input reads as it did. -/
def levelMovedSpec : ChangeSpec := { name := "levelMoved", fn := fun _ => fun
  | [d1, d2, d3, d4, d5] => { results := [.lit (.bool true)], args := [d1, d2, d3, d4, d5] }
  | _ => none }
def levelMovedRow : OpenClaim := { program := "ytidafhjdpklgbaa", sum := "946c28ea01e6cf44b84b4cb5e84d87424050563ca30b9f133c5f51725e809645", func := "heartwood/hwkeep.LevelMoved", spec := "levelMoved", inPlace := ["math/bits.Add64"], unfollowed := true, recurses := true, apart := false }
def LevelMovedSaid : Prop := levelMovedRow.holds Try.pinned (OpenSpec.ofChange levelMovedSpec)

/-- ITS FALSE NEIGHBOUR: 'it returns false'. Refute it at one input. -/
def levelMovedWrong : ChangeSpec := { name := "levelMoved", fn := fun _ => fun
  | [d1, d2, d3, d4, d5] => { results := [.lit (.bool false)], args := [d1, d2, d3, d4, d5] }
  | _ => none }
def LevelMovedWrongFalsely : Prop := levelMovedRow.holds Try.pinned (OpenSpec.ofChange levelMovedWrong)

/-- 'hwkeep.LevelSame': WHATEVER THE INPUT: true; the input reads as it did. -/
def levelSameSpec : ChangeSpec := { name := "levelSame", fn := fun _ => fun
  | [d1, d2, d3, d4] => { results := [.lit (.bool true)], args := [d1, d2, d3, d4] }
  | _ => none }
def levelSameRow : OpenClaim := { program := "ytidafhjdpklgbaa", sum := "946c28ea01e6cf44b84b4cb5e84d87424050563ca30b9f133c5f51725e809645", func := "heartwood/hwkeep.LevelSame", spec := "levelSame", inPlace := ["math/bits.Add64"], unfollowed := true, recurses := true, apart := false }
def LevelSameSaid : Prop := levelSameRow.holds Try.pinned (OpenSpec.ofChange levelSameSpec)

/-- ITS FALSE NEIGHBOUR: 'it returns false'. Refute it at one input. -/
def levelSameWrong : ChangeSpec := { name := "levelSame", fn := fun _ => fun
  | [d1, d2, d3, d4] => { results := [.lit (.bool false)], args := [d1, d2, d3, d4] }
  | _ => none }
def LevelSameWrongFalsely : Prop := levelSameRow.holds Try.pinned (OpenSpec.ofChange levelSameWrong)

/- THE SECOND FORM. 'bulk': how many values and letters a reading holds, each counted each time it is reached (what is shared counts as often as it is met; a slice's spare places count too). A statement '..UptoSaid' is the law's where the arguments, and the package variables that the reading takes, are together of bulk at most 1048576: NARROWER than '..Said'. Prove '..Said' where nothing that the law and all that it calls make is longer than what came in: it says more and counts as full. Else prove '..UptoSaid'. A law counts once. -/
mutual
def uptoBulk {H : Type} : DataW H → Nat
  | .lit (.string bytes) => bytes.length + 1
  | .lit _ => 1
  | .nil => 1
  | .ptr d => uptoBulk d + 1
  | .slice elems spare => uptoBulkAll elems + uptoBulkAll spare + 1
  | .agg parts => uptoBulkAll parts + 1
  | .iface _ d => uptoBulk d + 1
  | .map entries => uptoBulkEntries entries + 1
  | .held _ => 1
def uptoBulkAll {H : Type} : List (DataW H) → Nat
  | [] => 0
  | d :: r => uptoBulk d + uptoBulkAll r
def uptoBulkEntries {H : Type} : List (Lit × DataW H) → Nat
  | [] => 0
  | x :: r => uptoBulkEntry x + uptoBulkEntries r
def uptoBulkEntry {H : Type} : Lit × DataW H → Nat
  | (.string bytes, d) => bytes.length + uptoBulk d + 1
  | (_, d) => uptoBulk d + 1
 end
def uptoSmall : (H : Type) → List (DataW H) → Bool := fun _ ds => decide (uptoBulkAll ds ≤ 1048576)
def OpenSpec.upto (s : _root_.Go.ChangeSpec) : _root_.Go.OpenSpec := { _root_.Go.OpenSpec.ofChange s with cond := some uptoSmall }

/-- 'hwlaw.HistSays', WHERE WHAT IT READS IS OF BULK AT MOST 1048576: true; the input reads as it did. -/
def histSaysUptoRow : OpenClaim := { program := "ytidafhjdpklgbaa", sum := "946c28ea01e6cf44b84b4cb5e84d87424050563ca30b9f133c5f51725e809645", func := "heartwood/hwlaw.HistSays", spec := "histSays", unfollowed := true, recurses := true, apart := false, narrowed := true }
def HistSaysUptoSaid : Prop := histSaysUptoRow.holds Try.pinned (OpenSpec.upto histSaysSpec)

/-- 'hwlaw.LevelSays', WHERE WHAT IT READS IS OF BULK AT MOST 1048576: true; the input reads as it did. -/
def levelSaysUptoRow : OpenClaim := { program := "ytidafhjdpklgbaa", sum := "946c28ea01e6cf44b84b4cb5e84d87424050563ca30b9f133c5f51725e809645", func := "heartwood/hwlaw.LevelSays", spec := "levelSays", inPlace := ["math/bits.Add64"], unfollowed := true, recurses := true, apart := false, narrowed := true }
def LevelSaysUptoSaid : Prop := levelSaysUptoRow.holds Try.pinned (OpenSpec.upto levelSaysSpec)

/-- 'hwkeep.HistCounts', WHERE WHAT IT READS IS OF BULK AT MOST 1048576: true; the input reads as it did. -/
def histCountsUptoRow : OpenClaim := { program := "ytidafhjdpklgbaa", sum := "946c28ea01e6cf44b84b4cb5e84d87424050563ca30b9f133c5f51725e809645", func := "heartwood/hwkeep.HistCounts", spec := "histCounts", unfollowed := true, recurses := true, apart := false, narrowed := true }
def HistCountsUptoSaid : Prop := histCountsUptoRow.holds Try.pinned (OpenSpec.upto histCountsSpec)

/-- 'hwkeep.LevelGrows', WHERE WHAT IT READS IS OF BULK AT MOST 1048576: true; the input reads as it did. -/
def levelGrowsUptoRow : OpenClaim := { program := "ytidafhjdpklgbaa", sum := "946c28ea01e6cf44b84b4cb5e84d87424050563ca30b9f133c5f51725e809645", func := "heartwood/hwkeep.LevelGrows", spec := "levelGrows", inPlace := ["math/bits.Add64"], unfollowed := true, recurses := true, apart := false, narrowed := true }
def LevelGrowsUptoSaid : Prop := levelGrowsUptoRow.holds Try.pinned (OpenSpec.upto levelGrowsSpec)

/-- 'hwkeep.LevelIs', WHERE WHAT IT READS IS OF BULK AT MOST 1048576: true; the input reads as it did. -/
def levelIsUptoRow : OpenClaim := { program := "ytidafhjdpklgbaa", sum := "946c28ea01e6cf44b84b4cb5e84d87424050563ca30b9f133c5f51725e809645", func := "heartwood/hwkeep.LevelIs", spec := "levelIs", inPlace := ["math/bits.Add64"], unfollowed := true, recurses := true, apart := false, narrowed := true }
def LevelIsUptoSaid : Prop := levelIsUptoRow.holds Try.pinned (OpenSpec.upto levelIsSpec)

/-- 'hwkeep.LevelCantelli', WHERE WHAT IT READS IS OF BULK AT MOST 1048576: true; the input reads as it did. -/
def levelCantelliUptoRow : OpenClaim := { program := "ytidafhjdpklgbaa", sum := "946c28ea01e6cf44b84b4cb5e84d87424050563ca30b9f133c5f51725e809645", func := "heartwood/hwkeep.LevelCantelli", spec := "levelCantelli", inPlace := ["math/bits.Add64"], unfollowed := true, recurses := true, apart := false, narrowed := true }
def LevelCantelliUptoSaid : Prop := levelCantelliUptoRow.holds Try.pinned (OpenSpec.upto levelCantelliSpec)

/-- 'hwkeep.LevelWhen', WHERE WHAT IT READS IS OF BULK AT MOST 1048576: true; the input reads as it did. -/
def levelWhenUptoRow : OpenClaim := { program := "ytidafhjdpklgbaa", sum := "946c28ea01e6cf44b84b4cb5e84d87424050563ca30b9f133c5f51725e809645", func := "heartwood/hwkeep.LevelWhen", spec := "levelWhen", inPlace := ["math/bits.Add64"], unfollowed := true, recurses := true, apart := false, narrowed := true }
def LevelWhenUptoSaid : Prop := levelWhenUptoRow.holds Try.pinned (OpenSpec.upto levelWhenSpec)

/-- 'hwkeep.LevelLeast', WHERE WHAT IT READS IS OF BULK AT MOST 1048576: true; the input reads as it did. -/
def levelLeastUptoRow : OpenClaim := { program := "ytidafhjdpklgbaa", sum := "946c28ea01e6cf44b84b4cb5e84d87424050563ca30b9f133c5f51725e809645", func := "heartwood/hwkeep.LevelLeast", spec := "levelLeast", inPlace := ["math/bits.Add64"], unfollowed := true, recurses := true, apart := false, narrowed := true }
def LevelLeastUptoSaid : Prop := levelLeastUptoRow.holds Try.pinned (OpenSpec.upto levelLeastSpec)

/-- 'hwkeep.HistGrows', WHERE WHAT IT READS IS OF BULK AT MOST 1048576: true; the input reads as it did. -/
def histGrowsUptoRow : OpenClaim := { program := "ytidafhjdpklgbaa", sum := "946c28ea01e6cf44b84b4cb5e84d87424050563ca30b9f133c5f51725e809645", func := "heartwood/hwkeep.HistGrows", spec := "histGrows", unfollowed := true, recurses := true, apart := false, narrowed := true }
def HistGrowsUptoSaid : Prop := histGrowsUptoRow.holds Try.pinned (OpenSpec.upto histGrowsSpec)

/-- 'hwkeep.FadeSame', WHERE WHAT IT READS IS OF BULK AT MOST 1048576: true; the input reads as it did. -/
def fadeSameUptoRow : OpenClaim := { program := "ytidafhjdpklgbaa", sum := "946c28ea01e6cf44b84b4cb5e84d87424050563ca30b9f133c5f51725e809645", func := "heartwood/hwkeep.FadeSame", spec := "fadeSame", unfollowed := true, recurses := true, apart := false, narrowed := true }
def FadeSameUptoSaid : Prop := fadeSameUptoRow.holds Try.pinned (OpenSpec.upto fadeSameSpec)

/-- 'hwkeep.LevelMoved', WHERE WHAT IT READS IS OF BULK AT MOST 1048576: true; the input reads as it did. -/
def levelMovedUptoRow : OpenClaim := { program := "ytidafhjdpklgbaa", sum := "946c28ea01e6cf44b84b4cb5e84d87424050563ca30b9f133c5f51725e809645", func := "heartwood/hwkeep.LevelMoved", spec := "levelMoved", inPlace := ["math/bits.Add64"], unfollowed := true, recurses := true, apart := false, narrowed := true }
def LevelMovedUptoSaid : Prop := levelMovedUptoRow.holds Try.pinned (OpenSpec.upto levelMovedSpec)

/-- 'hwkeep.LevelSame', WHERE WHAT IT READS IS OF BULK AT MOST 1048576: true; the input reads as it did. -/
def levelSameUptoRow : OpenClaim := { program := "ytidafhjdpklgbaa", sum := "946c28ea01e6cf44b84b4cb5e84d87424050563ca30b9f133c5f51725e809645", func := "heartwood/hwkeep.LevelSame", spec := "levelSame", inPlace := ["math/bits.Add64"], unfollowed := true, recurses := true, apart := false, narrowed := true }
def LevelSameUptoSaid : Prop := levelSameUptoRow.holds Try.pinned (OpenSpec.upto levelSameSpec)

end Rows
end Go.Proofs.Ytidafhjdpklgbaa
