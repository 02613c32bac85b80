/-
  No cell of these rows narrows 'for every input' (looked for: loops, veiled, ifaces, maps, wideKeys, modest, calm, conditions, laid).
  DERIVED. THE GIVEN ROWS OF THIS SEAT. 14 by the template 'for every input the law returns true; each argument reads behind the call as it read before'; 0 by the template 'total and deterministic' (their statements: YtlfhcjohkpdkoaaTotals.lean).
  GIVEN WITH THE SEED: the statements are not yours to turn. If you find one false, say at which input.
  Laid BY PROGRAM, IN A SANDBOX (cutbox-rows.mjs): the forced cells as the released guide's own fill.sh prints them over the translation 306dab5196fed6f0… (all of the seat's roots in one cut). By AI agents, Wed Nov 11 2026. No macro, syntax, notation, axiom, sorry.
-/
import Derived.Test.YtlfhcjohkpdkoaaChecked
import GoSem.Claim
import GoSem.ClaimJoined
import GoSem.ClaimMapViews
import Derived.JoinedTies
import Derived.KernelRfl
namespace Go.Proofs.Ytlfhcjohkpdkoaa
/- THE CELL 'sum', in the pinned program and in every row, IS THE sha256 OF THE DUMP (.gsa) THAT YtlfhcjohkpdkoaaProg.lean LOADS. Nothing in Lean hashes anything: it is a label: what it is worth is what the hold of that sum in a sandbox is worth. -/
noncomputable def Try.pinned : Pinned := { name := "ytlfhcjohkpdkoaa", sum := "306dab5196fed6f0167b9a09ae56719adb597450f2b7ab6abcc1b453f9b280ca", checked := Try.checked }
namespace Rows
def none {H : Type} : Left H := { results := [], args := [] }

/-- 'hwlaw.MarksSay': WHATEVER THE INPUT: true; the input reads as it did. -/
def marksSaySpec : ChangeSpec := { name := "marksSay", fn := fun _ => fun
  | [d1, d2, d3] => { results := [.lit (.bool true)], args := [d1, d2, d3] }
  | _ => none }
def marksSayRow : OpenClaim := { program := "ytlfhcjohkpdkoaa", sum := "306dab5196fed6f0167b9a09ae56719adb597450f2b7ab6abcc1b453f9b280ca", func := "heartwood/hwlaw.MarksSay", spec := "marksSay", apart := false }
def MarksSaySaid : Prop := marksSayRow.holds Try.pinned (OpenSpec.ofChange marksSaySpec)

/-- ITS FALSE NEIGHBOUR: 'it returns false'. Refute it at one input. -/
def marksSayWrong : ChangeSpec := { name := "marksSay", fn := fun _ => fun
  | [d1, d2, d3] => { results := [.lit (.bool false)], args := [d1, d2, d3] }
  | _ => none }
def MarksSayWrongFalsely : Prop := marksSayRow.holds Try.pinned (OpenSpec.ofChange marksSayWrong)

/-- 'hwlaw.VoteSays': WHATEVER THE INPUT: true; the input reads as it did. -/
def voteSaysSpec : ChangeSpec := { name := "voteSays", fn := fun _ => fun
  | [d1, d2, d3] => { results := [.lit (.bool true)], args := [d1, d2, d3] }
  | _ => none }
def voteSaysRow : OpenClaim := { program := "ytlfhcjohkpdkoaa", sum := "306dab5196fed6f0167b9a09ae56719adb597450f2b7ab6abcc1b453f9b280ca", func := "heartwood/hwlaw.VoteSays", spec := "voteSays", unfollowed := true, recurses := true, apart := false }
def VoteSaysSaid : Prop := voteSaysRow.holds Try.pinned (OpenSpec.ofChange voteSaysSpec)

/-- ITS FALSE NEIGHBOUR: 'it returns false'. Refute it at one input. -/
def voteSaysWrong : ChangeSpec := { name := "voteSays", fn := fun _ => fun
  | [d1, d2, d3] => { results := [.lit (.bool false)], args := [d1, d2, d3] }
  | _ => none }
def VoteSaysWrongFalsely : Prop := voteSaysRow.holds Try.pinned (OpenSpec.ofChange voteSaysWrong)

/-- 'hwkeep.MarksAll': WHATEVER THE INPUT: true; the input reads as it did. -/
def marksAllSpec : ChangeSpec := { name := "marksAll", fn := fun _ => fun
  | [d1, d2] => { results := [.lit (.bool true)], args := [d1, d2] }
  | _ => none }
def marksAllRow : OpenClaim := { program := "ytlfhcjohkpdkoaa", sum := "306dab5196fed6f0167b9a09ae56719adb597450f2b7ab6abcc1b453f9b280ca", func := "heartwood/hwkeep.MarksAll", spec := "marksAll", apart := false }
def MarksAllSaid : Prop := marksAllRow.holds Try.pinned (OpenSpec.ofChange marksAllSpec)

/-- ITS FALSE NEIGHBOUR: 'it returns false'. Refute it at one input. -/
def marksAllWrong : ChangeSpec := { name := "marksAll", fn := fun _ => fun
  | [d1, d2] => { results := [.lit (.bool false)], args := [d1, d2] }
  | _ => none }
def MarksAllWrongFalsely : Prop := marksAllRow.holds Try.pinned (OpenSpec.ofChange marksAllWrong)

/-- 'hwkeep.MarksTicks': WHATEVER THE INPUT: true; the input reads as it did. -/
def marksTicksSpec : ChangeSpec := { name := "marksTicks", fn := fun _ => fun
  | [d1, d2] => { results := [.lit (.bool true)], args := [d1, d2] }
  | _ => none }
def marksTicksRow : OpenClaim := { program := "ytlfhcjohkpdkoaa", sum := "306dab5196fed6f0167b9a09ae56719adb597450f2b7ab6abcc1b453f9b280ca", func := "heartwood/hwkeep.MarksTicks", spec := "marksTicks", apart := false }
def MarksTicksSaid : Prop := marksTicksRow.holds Try.pinned (OpenSpec.ofChange marksTicksSpec)

/-- ITS FALSE NEIGHBOUR: 'it returns false'. Refute it at one input. -/
def marksTicksWrong : ChangeSpec := { name := "marksTicks", fn := fun _ => fun
  | [d1, d2] => { results := [.lit (.bool false)], args := [d1, d2] }
  | _ => none }
def MarksTicksWrongFalsely : Prop := marksTicksRow.holds Try.pinned (OpenSpec.ofChange marksTicksWrong)

/-- 'hwkeep.MarksJoin': WHATEVER THE INPUT: true; the input reads as it did. -/
def marksJoinSpec : ChangeSpec := { name := "marksJoin", fn := fun _ => fun
  | [d1, d2, d3] => { results := [.lit (.bool true)], args := [d1, d2, d3] }
  | _ => none }
def marksJoinRow : OpenClaim := { program := "ytlfhcjohkpdkoaa", sum := "306dab5196fed6f0167b9a09ae56719adb597450f2b7ab6abcc1b453f9b280ca", func := "heartwood/hwkeep.MarksJoin", spec := "marksJoin", apart := false }
def MarksJoinSaid : Prop := marksJoinRow.holds Try.pinned (OpenSpec.ofChange marksJoinSpec)

/-- ITS FALSE NEIGHBOUR: 'it returns false'. Refute it at one input. -/
def marksJoinWrong : ChangeSpec := { name := "marksJoin", fn := fun _ => fun
  | [d1, d2, d3] => { results := [.lit (.bool false)], args := [d1, d2, d3] }
  | _ => none }
def MarksJoinWrongFalsely : Prop := marksJoinRow.holds Try.pinned (OpenSpec.ofChange marksJoinWrong)

/-- 'hwkeep.VoteLevel': WHATEVER THE INPUT: true; the input reads as it did. -/
def voteLevelSpec : ChangeSpec := { name := "voteLevel", fn := fun _ => fun
  | [d1, d2, d3] => { results := [.lit (.bool true)], args := [d1, d2, d3] }
  | _ => none }
def voteLevelRow : OpenClaim := { program := "ytlfhcjohkpdkoaa", sum := "306dab5196fed6f0167b9a09ae56719adb597450f2b7ab6abcc1b453f9b280ca", func := "heartwood/hwkeep.VoteLevel", spec := "voteLevel", unfollowed := true, recurses := true, apart := false }
def VoteLevelSaid : Prop := voteLevelRow.holds Try.pinned (OpenSpec.ofChange voteLevelSpec)

/-- ITS FALSE NEIGHBOUR: 'it returns false'. Refute it at one input. -/
def voteLevelWrong : ChangeSpec := { name := "voteLevel", fn := fun _ => fun
  | [d1, d2, d3] => { results := [.lit (.bool false)], args := [d1, d2, d3] }
  | _ => none }
def VoteLevelWrongFalsely : Prop := voteLevelRow.holds Try.pinned (OpenSpec.ofChange voteLevelWrong)

/-- 'hwkeep.VoteGrows': WHATEVER THE INPUT: true; the input reads as it did. -/
def voteGrowsSpec : ChangeSpec := { name := "voteGrows", fn := fun _ => fun
  | [d1, d2, d3, d4, d5] => { results := [.lit (.bool true)], args := [d1, d2, d3, d4, d5] }
  | _ => none }
def voteGrowsRow : OpenClaim := { program := "ytlfhcjohkpdkoaa", sum := "306dab5196fed6f0167b9a09ae56719adb597450f2b7ab6abcc1b453f9b280ca", func := "heartwood/hwkeep.VoteGrows", spec := "voteGrows", unfollowed := true, recurses := true, apart := false }
def VoteGrowsSaid : Prop := voteGrowsRow.holds Try.pinned (OpenSpec.ofChange voteGrowsSpec)

/-- ITS FALSE NEIGHBOUR: 'it returns false'. Refute it at one input. -/
def voteGrowsWrong : ChangeSpec := { name := "voteGrows", fn := fun _ => fun
  | [d1, d2, d3, d4, d5] => { results := [.lit (.bool false)], args := [d1, d2, d3, d4, d5] }
  | _ => none }
def VoteGrowsWrongFalsely : Prop := voteGrowsRow.holds Try.pinned (OpenSpec.ofChange voteGrowsWrong)

/-- 'hwkeep.VoteMost': WHATEVER THE INPUT: true; the input reads as it did. -/
def voteMostSpec : ChangeSpec := { name := "voteMost", fn := fun _ => fun
  | [d1, d2, d3] => { results := [.lit (.bool true)], args := [d1, d2, d3] }
  | _ => none }
def voteMostRow : OpenClaim := { program := "ytlfhcjohkpdkoaa", sum := "306dab5196fed6f0167b9a09ae56719adb597450f2b7ab6abcc1b453f9b280ca", func := "heartwood/hwkeep.VoteMost", spec := "voteMost", unfollowed := true, recurses := true, apart := false }
def VoteMostSaid : Prop := voteMostRow.holds Try.pinned (OpenSpec.ofChange voteMostSpec)

/-- ITS FALSE NEIGHBOUR: 'it returns false'. Refute it at one input. -/
def voteMostWrong : ChangeSpec := { name := "voteMost", fn := fun _ => fun
  | [d1, d2, d3] => { results := [.lit (.bool false)], args := [d1, d2, d3] }
  | _ => none }
def VoteMostWrongFalsely : Prop := voteMostRow.holds Try.pinned (OpenSpec.ofChange voteMostWrong)

/-- 'hwkeep.FadeSame': WHATEVER THE INPUT: true; the input reads as it did. -/
def fadeSameSpec : ChangeSpec := { name := "fadeSame", fn := fun _ => fun
  | [d1, d2, d3, d4, d5] => { results := [.lit (.bool true)], args := [d1, d2, d3, d4, d5] }
  | _ => none }
def fadeSameRow : OpenClaim := { program := "ytlfhcjohkpdkoaa", sum := "306dab5196fed6f0167b9a09ae56719adb597450f2b7ab6abcc1b453f9b280ca", func := "heartwood/hwkeep.FadeSame", spec := "fadeSame", unfollowed := true, recurses := true, apart := false }
def FadeSameSaid : Prop := fadeSameRow.holds Try.pinned (OpenSpec.ofChange fadeSameSpec)

/-- ITS FALSE NEIGHBOUR: 'it returns false'. Refute it at one input. -/
def fadeSameWrong : ChangeSpec := { name := "fadeSame", fn := fun _ => fun
  | [d1, d2, d3, d4, d5] => { results := [.lit (.bool false)], args := [d1, d2, d3, d4, d5] }
  | _ => none }
def FadeSameWrongFalsely : Prop := fadeSameRow.holds Try.pinned (OpenSpec.ofChange fadeSameWrong)

/-- 'hwkeep.LevelSame': WHATEVER THE INPUT: true; the input reads as it did. -/
def levelSameSpec : ChangeSpec := { name := "levelSame", fn := fun _ => fun
  | [d1, d2, d3, d4] => { results := [.lit (.bool true)], args := [d1, d2, d3, d4] }
  | _ => none }
def levelSameRow : OpenClaim := { program := "ytlfhcjohkpdkoaa", sum := "306dab5196fed6f0167b9a09ae56719adb597450f2b7ab6abcc1b453f9b280ca", func := "heartwood/hwkeep.LevelSame", spec := "levelSame", inPlace := ["math/bits.Add64"], unfollowed := true, recurses := true, apart := false }
def LevelSameSaid : Prop := levelSameRow.holds Try.pinned (OpenSpec.ofChange levelSameSpec)

/-- ITS FALSE NEIGHBOUR: 'it returns false'. Refute it at one input. -/
def levelSameWrong : ChangeSpec := { name := "levelSame", fn := fun _ => fun
  | [d1, d2, d3, d4] => { results := [.lit (.bool false)], args := [d1, d2, d3, d4] }
  | _ => none }
def LevelSameWrongFalsely : Prop := levelSameRow.holds Try.pinned (OpenSpec.ofChange levelSameWrong)

/-- 'hwkeep.MarksLonger': WHATEVER THE INPUT: true; the input reads as it did. -/
def marksLongerSpec : ChangeSpec := { name := "marksLonger", fn := fun _ => fun
  | [d1, d2] => { results := [.lit (.bool true)], args := [d1, d2] }
  | _ => none }
def marksLongerRow : OpenClaim := { program := "ytlfhcjohkpdkoaa", sum := "306dab5196fed6f0167b9a09ae56719adb597450f2b7ab6abcc1b453f9b280ca", func := "heartwood/hwkeep.MarksLonger", spec := "marksLonger", apart := false }
def MarksLongerSaid : Prop := marksLongerRow.holds Try.pinned (OpenSpec.ofChange marksLongerSpec)

/-- ITS FALSE NEIGHBOUR: 'it returns false'. Refute it at one input. -/
def marksLongerWrong : ChangeSpec := { name := "marksLonger", fn := fun _ => fun
  | [d1, d2] => { results := [.lit (.bool false)], args := [d1, d2] }
  | _ => none }
def MarksLongerWrongFalsely : Prop := marksLongerRow.holds Try.pinned (OpenSpec.ofChange marksLongerWrong)

/-- 'hwkeep.VoteEnds': WHATEVER THE INPUT: true; the input reads as it did. -/
def voteEndsSpec : ChangeSpec := { name := "voteEnds", fn := fun _ => fun
  | [d1, d2] => { results := [.lit (.bool true)], args := [d1, d2] }
  | _ => none }
def voteEndsRow : OpenClaim := { program := "ytlfhcjohkpdkoaa", sum := "306dab5196fed6f0167b9a09ae56719adb597450f2b7ab6abcc1b453f9b280ca", func := "heartwood/hwkeep.VoteEnds", spec := "voteEnds", unfollowed := true, recurses := true, apart := false }
def VoteEndsSaid : Prop := voteEndsRow.holds Try.pinned (OpenSpec.ofChange voteEndsSpec)

/-- ITS FALSE NEIGHBOUR: 'it returns false'. Refute it at one input. -/
def voteEndsWrong : ChangeSpec := { name := "voteEnds", fn := fun _ => fun
  | [d1, d2] => { results := [.lit (.bool false)], args := [d1, d2] }
  | _ => none }
def VoteEndsWrongFalsely : Prop := voteEndsRow.holds Try.pinned (OpenSpec.ofChange voteEndsWrong)

/-- 'hwkeep.ValuesOwn': WHATEVER THE INPUT: true; the input reads as it did. -/
def valuesOwnSpec : ChangeSpec := { name := "valuesOwn", fn := fun _ => fun
  | [d1, d2, d3] => { results := [.lit (.bool true)], args := [d1, d2, d3] }
  | _ => none }
def valuesOwnRow : OpenClaim := { program := "ytlfhcjohkpdkoaa", sum := "306dab5196fed6f0167b9a09ae56719adb597450f2b7ab6abcc1b453f9b280ca", func := "heartwood/hwkeep.ValuesOwn", spec := "valuesOwn", inPlace := ["math/bits.Add64"], unfollowed := true, recurses := true, apart := false }
def ValuesOwnSaid : Prop := valuesOwnRow.holds Try.pinned (OpenSpec.ofChange valuesOwnSpec)

/-- ITS FALSE NEIGHBOUR: 'it returns false'. Refute it at one input. -/
def valuesOwnWrong : ChangeSpec := { name := "valuesOwn", fn := fun _ => fun
  | [d1, d2, d3] => { results := [.lit (.bool false)], args := [d1, d2, d3] }
  | _ => none }
def ValuesOwnWrongFalsely : Prop := valuesOwnRow.holds Try.pinned (OpenSpec.ofChange valuesOwnWrong)

/-- 'hwtop.TopVotes': WHATEVER THE INPUT: true; the input reads as it did. -/
def topVotesSpec : ChangeSpec := { name := "topVotes", fn := fun _ => fun
  | [d1, d2, d3, d4, d5] => { results := [.lit (.bool true)], args := [d1, d2, d3, d4, d5] }
  | _ => none }
def topVotesRow : OpenClaim := { program := "ytlfhcjohkpdkoaa", sum := "306dab5196fed6f0167b9a09ae56719adb597450f2b7ab6abcc1b453f9b280ca", func := "heartwood/hwtop.TopVotes", spec := "topVotes", inPlace := ["math/bits.Add64"], unfollowed := true, recurses := true, apart := false }
def TopVotesSaid : Prop := topVotesRow.holds Try.pinned (OpenSpec.ofChange topVotesSpec)

/-- ITS FALSE NEIGHBOUR: 'it returns false'. Refute it at one input. -/
def topVotesWrong : ChangeSpec := { name := "topVotes", fn := fun _ => fun
  | [d1, d2, d3, d4, d5] => { results := [.lit (.bool false)], args := [d1, d2, d3, d4, d5] }
  | _ => none }
def TopVotesWrongFalsely : Prop := topVotesRow.holds Try.pinned (OpenSpec.ofChange topVotesWrong)

/- THE SECOND FORM. 'bulk': how many values and letters a reading holds, each counted each time it is reached (what is shared counts as often as it is met; a slice's spare places count too). A statement '..UptoSaid' is the law's where the arguments, and the package variables that the reading takes, are together of bulk at most 1048576: NARROWER than '..Said'. Prove '..Said' where nothing that the law and all that it calls make is longer than what came in: it says more and counts as full. Else prove '..UptoSaid'. A law counts once. -/
mutual
def uptoBulk {H : Type} : DataW H → Nat
  | .lit (.string bytes) => bytes.length + 1
  | .lit _ => 1
  | .nil => 1
  | .ptr d => uptoBulk d + 1
  | .slice elems spare => uptoBulkAll elems + uptoBulkAll spare + 1
  | .agg parts => uptoBulkAll parts + 1
  | .iface _ d => uptoBulk d + 1
  | .map entries => uptoBulkEntries entries + 1
  | .held _ => 1
def uptoBulkAll {H : Type} : List (DataW H) → Nat
  | [] => 0
  | d :: r => uptoBulk d + uptoBulkAll r
def uptoBulkEntries {H : Type} : List (Lit × DataW H) → Nat
  | [] => 0
  | x :: r => uptoBulkEntry x + uptoBulkEntries r
def uptoBulkEntry {H : Type} : Lit × DataW H → Nat
  | (.string bytes, d) => bytes.length + uptoBulk d + 1
  | (_, d) => uptoBulk d + 1
 end
def uptoSmall : (H : Type) → List (DataW H) → Bool := fun _ ds => decide (uptoBulkAll ds ≤ 1048576)
def OpenSpec.upto (s : _root_.Go.ChangeSpec) : _root_.Go.OpenSpec := { _root_.Go.OpenSpec.ofChange s with cond := some uptoSmall }

/-- 'hwlaw.MarksSay', WHERE WHAT IT READS IS OF BULK AT MOST 1048576: true; the input reads as it did. -/
def marksSayUptoRow : OpenClaim := { program := "ytlfhcjohkpdkoaa", sum := "306dab5196fed6f0167b9a09ae56719adb597450f2b7ab6abcc1b453f9b280ca", func := "heartwood/hwlaw.MarksSay", spec := "marksSay", apart := false, narrowed := true }
def MarksSayUptoSaid : Prop := marksSayUptoRow.holds Try.pinned (OpenSpec.upto marksSaySpec)

/-- 'hwlaw.VoteSays', WHERE WHAT IT READS IS OF BULK AT MOST 1048576: true; the input reads as it did. -/
def voteSaysUptoRow : OpenClaim := { program := "ytlfhcjohkpdkoaa", sum := "306dab5196fed6f0167b9a09ae56719adb597450f2b7ab6abcc1b453f9b280ca", func := "heartwood/hwlaw.VoteSays", spec := "voteSays", unfollowed := true, recurses := true, apart := false, narrowed := true }
def VoteSaysUptoSaid : Prop := voteSaysUptoRow.holds Try.pinned (OpenSpec.upto voteSaysSpec)

/-- 'hwkeep.MarksAll', WHERE WHAT IT READS IS OF BULK AT MOST 1048576: true; the input reads as it did. -/
def marksAllUptoRow : OpenClaim := { program := "ytlfhcjohkpdkoaa", sum := "306dab5196fed6f0167b9a09ae56719adb597450f2b7ab6abcc1b453f9b280ca", func := "heartwood/hwkeep.MarksAll", spec := "marksAll", apart := false, narrowed := true }
def MarksAllUptoSaid : Prop := marksAllUptoRow.holds Try.pinned (OpenSpec.upto marksAllSpec)

/-- 'hwkeep.MarksTicks', WHERE WHAT IT READS IS OF BULK AT MOST 1048576: true; the input reads as it did. -/
def marksTicksUptoRow : OpenClaim := { program := "ytlfhcjohkpdkoaa", sum := "306dab5196fed6f0167b9a09ae56719adb597450f2b7ab6abcc1b453f9b280ca", func := "heartwood/hwkeep.MarksTicks", spec := "marksTicks", apart := false, narrowed := true }
def MarksTicksUptoSaid : Prop := marksTicksUptoRow.holds Try.pinned (OpenSpec.upto marksTicksSpec)

/-- 'hwkeep.MarksJoin', WHERE WHAT IT READS IS OF BULK AT MOST 1048576: true; the input reads as it did. -/
def marksJoinUptoRow : OpenClaim := { program := "ytlfhcjohkpdkoaa", sum := "306dab5196fed6f0167b9a09ae56719adb597450f2b7ab6abcc1b453f9b280ca", func := "heartwood/hwkeep.MarksJoin", spec := "marksJoin", apart := false, narrowed := true }
def MarksJoinUptoSaid : Prop := marksJoinUptoRow.holds Try.pinned (OpenSpec.upto marksJoinSpec)

/-- 'hwkeep.VoteLevel', WHERE WHAT IT READS IS OF BULK AT MOST 1048576: true; the input reads as it did. -/
def voteLevelUptoRow : OpenClaim := { program := "ytlfhcjohkpdkoaa", sum := "306dab5196fed6f0167b9a09ae56719adb597450f2b7ab6abcc1b453f9b280ca", func := "heartwood/hwkeep.VoteLevel", spec := "voteLevel", unfollowed := true, recurses := true, apart := false, narrowed := true }
def VoteLevelUptoSaid : Prop := voteLevelUptoRow.holds Try.pinned (OpenSpec.upto voteLevelSpec)

/-- 'hwkeep.VoteGrows', WHERE WHAT IT READS IS OF BULK AT MOST 1048576: true; the input reads as it did. -/
def voteGrowsUptoRow : OpenClaim := { program := "ytlfhcjohkpdkoaa", sum := "306dab5196fed6f0167b9a09ae56719adb597450f2b7ab6abcc1b453f9b280ca", func := "heartwood/hwkeep.VoteGrows", spec := "voteGrows", unfollowed := true, recurses := true, apart := false, narrowed := true }
def VoteGrowsUptoSaid : Prop := voteGrowsUptoRow.holds Try.pinned (OpenSpec.upto voteGrowsSpec)

/-- 'hwkeep.VoteMost', WHERE WHAT IT READS IS OF BULK AT MOST 1048576: true; the input reads as it did. -/
def voteMostUptoRow : OpenClaim := { program := "ytlfhcjohkpdkoaa", sum := "306dab5196fed6f0167b9a09ae56719adb597450f2b7ab6abcc1b453f9b280ca", func := "heartwood/hwkeep.VoteMost", spec := "voteMost", unfollowed := true, recurses := true, apart := false, narrowed := true }
def VoteMostUptoSaid : Prop := voteMostUptoRow.holds Try.pinned (OpenSpec.upto voteMostSpec)

/-- 'hwkeep.FadeSame', WHERE WHAT IT READS IS OF BULK AT MOST 1048576: true; the input reads as it did. -/
def fadeSameUptoRow : OpenClaim := { program := "ytlfhcjohkpdkoaa", sum := "306dab5196fed6f0167b9a09ae56719adb597450f2b7ab6abcc1b453f9b280ca", func := "heartwood/hwkeep.FadeSame", spec := "fadeSame", unfollowed := true, recurses := true, apart := false, narrowed := true }
def FadeSameUptoSaid : Prop := fadeSameUptoRow.holds Try.pinned (OpenSpec.upto fadeSameSpec)

/-- 'hwkeep.LevelSame', WHERE WHAT IT READS IS OF BULK AT MOST 1048576: true; the input reads as it did. -/
def levelSameUptoRow : OpenClaim := { program := "ytlfhcjohkpdkoaa", sum := "306dab5196fed6f0167b9a09ae56719adb597450f2b7ab6abcc1b453f9b280ca", func := "heartwood/hwkeep.LevelSame", spec := "levelSame", inPlace := ["math/bits.Add64"], unfollowed := true, recurses := true, apart := false, narrowed := true }
def LevelSameUptoSaid : Prop := levelSameUptoRow.holds Try.pinned (OpenSpec.upto levelSameSpec)

/-- 'hwkeep.MarksLonger', WHERE WHAT IT READS IS OF BULK AT MOST 1048576: true; the input reads as it did. -/
def marksLongerUptoRow : OpenClaim := { program := "ytlfhcjohkpdkoaa", sum := "306dab5196fed6f0167b9a09ae56719adb597450f2b7ab6abcc1b453f9b280ca", func := "heartwood/hwkeep.MarksLonger", spec := "marksLonger", apart := false, narrowed := true }
def MarksLongerUptoSaid : Prop := marksLongerUptoRow.holds Try.pinned (OpenSpec.upto marksLongerSpec)

/-- 'hwkeep.VoteEnds', WHERE WHAT IT READS IS OF BULK AT MOST 1048576: true; the input reads as it did. -/
def voteEndsUptoRow : OpenClaim := { program := "ytlfhcjohkpdkoaa", sum := "306dab5196fed6f0167b9a09ae56719adb597450f2b7ab6abcc1b453f9b280ca", func := "heartwood/hwkeep.VoteEnds", spec := "voteEnds", unfollowed := true, recurses := true, apart := false, narrowed := true }
def VoteEndsUptoSaid : Prop := voteEndsUptoRow.holds Try.pinned (OpenSpec.upto voteEndsSpec)

/-- 'hwkeep.ValuesOwn', WHERE WHAT IT READS IS OF BULK AT MOST 1048576: true; the input reads as it did. -/
def valuesOwnUptoRow : OpenClaim := { program := "ytlfhcjohkpdkoaa", sum := "306dab5196fed6f0167b9a09ae56719adb597450f2b7ab6abcc1b453f9b280ca", func := "heartwood/hwkeep.ValuesOwn", spec := "valuesOwn", inPlace := ["math/bits.Add64"], unfollowed := true, recurses := true, apart := false, narrowed := true }
def ValuesOwnUptoSaid : Prop := valuesOwnUptoRow.holds Try.pinned (OpenSpec.upto valuesOwnSpec)

/-- 'hwtop.TopVotes', WHERE WHAT IT READS IS OF BULK AT MOST 1048576: true; the input reads as it did. -/
def topVotesUptoRow : OpenClaim := { program := "ytlfhcjohkpdkoaa", sum := "306dab5196fed6f0167b9a09ae56719adb597450f2b7ab6abcc1b453f9b280ca", func := "heartwood/hwtop.TopVotes", spec := "topVotes", inPlace := ["math/bits.Add64"], unfollowed := true, recurses := true, apart := false, narrowed := true }
def TopVotesUptoSaid : Prop := topVotesUptoRow.holds Try.pinned (OpenSpec.upto topVotesSpec)

end Rows
end Go.Proofs.Ytlfhcjohkpdkoaa
