/-
  No cell of these rows narrows 'for every input' (looked for: loops, veiled, ifaces, maps, wideKeys, modest, calm, conditions, laid).
  DERIVED. THE GIVEN ROWS OF THIS SEAT. 13 by the template 'for every input the law returns true; each argument reads behind the call as it read before'; 0 by the template 'total and deterministic' (their statements: YtnaloeoiobcifaaTotals.lean).
  GIVEN WITH THE SEED: the statements are not yours to turn. If you find one false, say at which input.
  Laid BY PROGRAM, IN A SANDBOX (cutbox-rows.mjs): the forced cells as the released guide's own fill.sh prints them over the translation f6fd117114157254… (all of the seat's roots in one cut). By AI agents, Wed Nov 11 2026. No macro, syntax, notation, axiom, sorry.
-/
import Derived.Test.YtnaloeoiobcifaaChecked
import GoSem.Claim
import GoSem.ClaimJoined
import GoSem.ClaimMapViews
import Derived.JoinedTies
import Derived.KernelRfl
namespace Go.Proofs.Ytnaloeoiobcifaa
/- THE CELL 'sum', in the pinned program and in every row, IS THE sha256 OF THE DUMP (.gsa) THAT YtnaloeoiobcifaaProg.lean LOADS. Nothing in Lean hashes anything: it is a label: what it is worth is what the hold of that sum in a sandbox is worth. -/
noncomputable def Try.pinned : Pinned := { name := "ytnaloeoiobcifaa", sum := "f6fd117114157254644339bcb947560bc622fbf693eef361c5975425b33209ff", checked := Try.checked }
namespace Rows
def none {H : Type} : Left H := { results := [], args := [] }

/-- 'hwlaw.RankPuts': WHATEVER THE INPUT: true; the input reads as it did. -/
def rankPutsSpec : ChangeSpec := { name := "rankPuts", fn := fun _ => fun
  | [d1, d2] => { results := [.lit (.bool true)], args := [d1, d2] }
  | _ => none }
def rankPutsRow : OpenClaim := { program := "ytnaloeoiobcifaa", sum := "f6fd117114157254644339bcb947560bc622fbf693eef361c5975425b33209ff", func := "heartwood/hwlaw.RankPuts", spec := "rankPuts", unfollowed := true, recurses := true, apart := false }
def RankPutsSaid : Prop := rankPutsRow.holds Try.pinned (OpenSpec.ofChange rankPutsSpec)

/-- ITS FALSE NEIGHBOUR: 'it returns false'. Refute it at one input. -/
def rankPutsWrong : ChangeSpec := { name := "rankPuts", fn := fun _ => fun
  | [d1, d2] => { results := [.lit (.bool false)], args := [d1, d2] }
  | _ => none }
def RankPutsWrongFalsely : Prop := rankPutsRow.holds Try.pinned (OpenSpec.ofChange rankPutsWrong)

/-- 'hwlaw.TailSays': WHATEVER THE INPUT: true; the input reads as it did. -/
def tailSaysSpec : ChangeSpec := { name := "tailSays", fn := fun _ => fun
  | [d1, d2, d3] => { results := [.lit (.bool true)], args := [d1, d2, d3] }
  | _ => none }
def tailSaysRow : OpenClaim := { program := "ytnaloeoiobcifaa", sum := "f6fd117114157254644339bcb947560bc622fbf693eef361c5975425b33209ff", func := "heartwood/hwlaw.TailSays", spec := "tailSays", inPlace := ["math/bits.Add64", "math/bits.Sub64"], unfollowed := true, recurses := true, named := ["math/bits.divideError", "math/bits.overflowError"], apart := false }
def TailSaysSaid : Prop := tailSaysRow.holds Try.pinned (OpenSpec.ofChange tailSaysSpec)

/-- ITS FALSE NEIGHBOUR: 'it returns false'. Refute it at one input. -/
def tailSaysWrong : ChangeSpec := { name := "tailSays", fn := fun _ => fun
  | [d1, d2, d3] => { results := [.lit (.bool false)], args := [d1, d2, d3] }
  | _ => none }
def TailSaysWrongFalsely : Prop := tailSaysRow.holds Try.pinned (OpenSpec.ofChange tailSaysWrong)

/-- 'hwlaw.HistSays': WHATEVER THE INPUT: true; the input reads as it did. -/
def histSaysSpec : ChangeSpec := { name := "histSays", fn := fun _ => fun
  | [d1, d2, d3, d4, d5] => { results := [.lit (.bool true)], args := [d1, d2, d3, d4, d5] }
  | _ => none }
def histSaysRow : OpenClaim := { program := "ytnaloeoiobcifaa", sum := "f6fd117114157254644339bcb947560bc622fbf693eef361c5975425b33209ff", func := "heartwood/hwlaw.HistSays", spec := "histSays", unfollowed := true, recurses := true, apart := false }
def HistSaysSaid : Prop := histSaysRow.holds Try.pinned (OpenSpec.ofChange histSaysSpec)

/-- ITS FALSE NEIGHBOUR: 'it returns false'. Refute it at one input. -/
def histSaysWrong : ChangeSpec := { name := "histSays", fn := fun _ => fun
  | [d1, d2, d3, d4, d5] => { results := [.lit (.bool false)], args := [d1, d2, d3, d4, d5] }
  | _ => none }
def HistSaysWrongFalsely : Prop := histSaysRow.holds Try.pinned (OpenSpec.ofChange histSaysWrong)

/-- 'hwlaw.ChenSays': WHATEVER THE INPUT: true; the input reads as it did. -/
def chenSaysSpec : ChangeSpec := { name := "chenSays", fn := fun _ => fun
  | [d1, d2, d3, d4, d5, d6] => { results := [.lit (.bool true)], args := [d1, d2, d3, d4, d5, d6] }
  | _ => none }
def chenSaysRow : OpenClaim := { program := "ytnaloeoiobcifaa", sum := "f6fd117114157254644339bcb947560bc622fbf693eef361c5975425b33209ff", func := "heartwood/hwlaw.ChenSays", spec := "chenSays", unfollowed := true, recurses := true, apart := false }
def ChenSaysSaid : Prop := chenSaysRow.holds Try.pinned (OpenSpec.ofChange chenSaysSpec)

/-- ITS FALSE NEIGHBOUR: 'it returns false'. Refute it at one input. -/
def chenSaysWrong : ChangeSpec := { name := "chenSays", fn := fun _ => fun
  | [d1, d2, d3, d4, d5, d6] => { results := [.lit (.bool false)], args := [d1, d2, d3, d4, d5, d6] }
  | _ => none }
def ChenSaysWrongFalsely : Prop := chenSaysRow.holds Try.pinned (OpenSpec.ofChange chenSaysWrong)

/-- 'hwkeep.StatJoins': WHATEVER THE INPUT: true; the input reads as it did. -/
def statJoinsSpec : ChangeSpec := { name := "statJoins", fn := fun _ => fun
  | [d1, d2, d3] => { results := [.lit (.bool true)], args := [d1, d2, d3] }
  | _ => none }
def statJoinsRow : OpenClaim := { program := "ytnaloeoiobcifaa", sum := "f6fd117114157254644339bcb947560bc622fbf693eef361c5975425b33209ff", func := "heartwood/hwkeep.StatJoins", spec := "statJoins", unfollowed := true, recurses := true, apart := false }
def StatJoinsSaid : Prop := statJoinsRow.holds Try.pinned (OpenSpec.ofChange statJoinsSpec)

/-- ITS FALSE NEIGHBOUR: 'it returns false'. Refute it at one input. -/
def statJoinsWrong : ChangeSpec := { name := "statJoins", fn := fun _ => fun
  | [d1, d2, d3] => { results := [.lit (.bool false)], args := [d1, d2, d3] }
  | _ => none }
def StatJoinsWrongFalsely : Prop := statJoinsRow.holds Try.pinned (OpenSpec.ofChange statJoinsWrong)

/-- 'hwkeep.HistCounts': WHATEVER THE INPUT: true; the input reads as it did. -/
def histCountsSpec : ChangeSpec := { name := "histCounts", fn := fun _ => fun
  | [d1, d2, d3, d4, d5] => { results := [.lit (.bool true)], args := [d1, d2, d3, d4, d5] }
  | _ => none }
def histCountsRow : OpenClaim := { program := "ytnaloeoiobcifaa", sum := "f6fd117114157254644339bcb947560bc622fbf693eef361c5975425b33209ff", func := "heartwood/hwkeep.HistCounts", spec := "histCounts", unfollowed := true, recurses := true, apart := false }
def HistCountsSaid : Prop := histCountsRow.holds Try.pinned (OpenSpec.ofChange histCountsSpec)

/-- ITS FALSE NEIGHBOUR: 'it returns false'. Refute it at one input. -/
def histCountsWrong : ChangeSpec := { name := "histCounts", fn := fun _ => fun
  | [d1, d2, d3, d4, d5] => { results := [.lit (.bool false)], args := [d1, d2, d3, d4, d5] }
  | _ => none }
def HistCountsWrongFalsely : Prop := histCountsRow.holds Try.pinned (OpenSpec.ofChange histCountsWrong)

/-- 'hwkeep.GateOnce': WHATEVER THE INPUT: true; the input reads as it did. -/
def gateOnceSpec : ChangeSpec := { name := "gateOnce", fn := fun _ => fun
  | [d] => { results := [.lit (.bool true)], args := [d] }
  | _ => none }
def gateOnceRow : OpenClaim := { program := "ytnaloeoiobcifaa", sum := "f6fd117114157254644339bcb947560bc622fbf693eef361c5975425b33209ff", func := "heartwood/hwkeep.GateOnce", spec := "gateOnce", apart := false }
def GateOnceSaid : Prop := gateOnceRow.holds Try.pinned (OpenSpec.ofChange gateOnceSpec)

/-- ITS FALSE NEIGHBOUR: 'it returns false'. Refute it at one input. -/
def gateOnceWrong : ChangeSpec := { name := "gateOnce", fn := fun _ => fun
  | [d] => { results := [.lit (.bool false)], args := [d] }
  | _ => none }
def GateOnceWrongFalsely : Prop := gateOnceRow.holds Try.pinned (OpenSpec.ofChange gateOnceWrong)

/-- 'hwkeep.ChenExact': WHATEVER THE INPUT: true; the input reads as it did. -/
def chenExactSpec : ChangeSpec := { name := "chenExact", fn := fun _ => fun
  | [d1, d2, d3, d4, d5] => { results := [.lit (.bool true)], args := [d1, d2, d3, d4, d5] }
  | _ => none }
def chenExactRow : OpenClaim := { program := "ytnaloeoiobcifaa", sum := "f6fd117114157254644339bcb947560bc622fbf693eef361c5975425b33209ff", func := "heartwood/hwkeep.ChenExact", spec := "chenExact", unfollowed := true, recurses := true, apart := false }
def ChenExactSaid : Prop := chenExactRow.holds Try.pinned (OpenSpec.ofChange chenExactSpec)

/-- ITS FALSE NEIGHBOUR: 'it returns false'. Refute it at one input. -/
def chenExactWrong : ChangeSpec := { name := "chenExact", fn := fun _ => fun
  | [d1, d2, d3, d4, d5] => { results := [.lit (.bool false)], args := [d1, d2, d3, d4, d5] }
  | _ => none }
def ChenExactWrongFalsely : Prop := chenExactRow.holds Try.pinned (OpenSpec.ofChange chenExactWrong)

/-- 'hwkeep.LateIs': WHATEVER THE INPUT: true; the input reads as it did. -/
def lateIsSpec : ChangeSpec := { name := "lateIs", fn := fun _ => fun
  | [d1, d2, d3, d4] => { results := [.lit (.bool true)], args := [d1, d2, d3, d4] }
  | _ => none }
def lateIsRow : OpenClaim := { program := "ytnaloeoiobcifaa", sum := "f6fd117114157254644339bcb947560bc622fbf693eef361c5975425b33209ff", func := "heartwood/hwkeep.LateIs", spec := "lateIs", unfollowed := true, recurses := true, apart := false }
def LateIsSaid : Prop := lateIsRow.holds Try.pinned (OpenSpec.ofChange lateIsSpec)

/-- ITS FALSE NEIGHBOUR: 'it returns false'. Refute it at one input. -/
def lateIsWrong : ChangeSpec := { name := "lateIs", fn := fun _ => fun
  | [d1, d2, d3, d4] => { results := [.lit (.bool false)], args := [d1, d2, d3, d4] }
  | _ => none }
def LateIsWrongFalsely : Prop := lateIsRow.holds Try.pinned (OpenSpec.ofChange lateIsWrong)

/-- 'hwkeep.HistGrows': WHATEVER THE INPUT: true; the input reads as it did. -/
def histGrowsSpec : ChangeSpec := { name := "histGrows", fn := fun _ => fun
  | [d1, d2, d3, d4] => { results := [.lit (.bool true)], args := [d1, d2, d3, d4] }
  | _ => none }
def histGrowsRow : OpenClaim := { program := "ytnaloeoiobcifaa", sum := "f6fd117114157254644339bcb947560bc622fbf693eef361c5975425b33209ff", func := "heartwood/hwkeep.HistGrows", spec := "histGrows", unfollowed := true, recurses := true, apart := false }
def HistGrowsSaid : Prop := histGrowsRow.holds Try.pinned (OpenSpec.ofChange histGrowsSpec)

/-- ITS FALSE NEIGHBOUR: 'it returns false'. Refute it at one input. -/
def histGrowsWrong : ChangeSpec := { name := "histGrows", fn := fun _ => fun
  | [d1, d2, d3, d4] => { results := [.lit (.bool false)], args := [d1, d2, d3, d4] }
  | _ => none }
def HistGrowsWrongFalsely : Prop := histGrowsRow.holds Try.pinned (OpenSpec.ofChange histGrowsWrong)

/-- 'hwkeep.FadeSame': WHATEVER THE INPUT: true; the input reads as it did. -/
def fadeSameSpec : ChangeSpec := { name := "fadeSame", fn := fun _ => fun
  | [d1, d2, d3, d4, d5] => { results := [.lit (.bool true)], args := [d1, d2, d3, d4, d5] }
  | _ => none }
def fadeSameRow : OpenClaim := { program := "ytnaloeoiobcifaa", sum := "f6fd117114157254644339bcb947560bc622fbf693eef361c5975425b33209ff", func := "heartwood/hwkeep.FadeSame", spec := "fadeSame", unfollowed := true, recurses := true, apart := false }
def FadeSameSaid : Prop := fadeSameRow.holds Try.pinned (OpenSpec.ofChange fadeSameSpec)

/-- ITS FALSE NEIGHBOUR: 'it returns false'. Refute it at one input. -/
def fadeSameWrong : ChangeSpec := { name := "fadeSame", fn := fun _ => fun
  | [d1, d2, d3, d4, d5] => { results := [.lit (.bool false)], args := [d1, d2, d3, d4, d5] }
  | _ => none }
def FadeSameWrongFalsely : Prop := fadeSameRow.holds Try.pinned (OpenSpec.ofChange fadeSameWrong)

/-- 'hwkeep.ChenBetween': WHATEVER THE INPUT: true; the input reads as it did. -/
def chenBetweenSpec : ChangeSpec := { name := "chenBetween", fn := fun _ => fun
  | [d1, d2, d3] => { results := [.lit (.bool true)], args := [d1, d2, d3] }
  | _ => none }
def chenBetweenRow : OpenClaim := { program := "ytnaloeoiobcifaa", sum := "f6fd117114157254644339bcb947560bc622fbf693eef361c5975425b33209ff", func := "heartwood/hwkeep.ChenBetween", spec := "chenBetween", unfollowed := true, recurses := true, apart := false }
def ChenBetweenSaid : Prop := chenBetweenRow.holds Try.pinned (OpenSpec.ofChange chenBetweenSpec)

/-- ITS FALSE NEIGHBOUR: 'it returns false'. Refute it at one input. -/
def chenBetweenWrong : ChangeSpec := { name := "chenBetween", fn := fun _ => fun
  | [d1, d2, d3] => { results := [.lit (.bool false)], args := [d1, d2, d3] }
  | _ => none }
def ChenBetweenWrongFalsely : Prop := chenBetweenRow.holds Try.pinned (OpenSpec.ofChange chenBetweenWrong)

/-- 'hwtop.TopTails': WHATEVER THE INPUT: true; the input reads as it did. -/
def topTailsSpec : ChangeSpec := { name := "topTails", fn := fun _ => fun
  | [d1, d2] => { results := [.lit (.bool true)], args := [d1, d2] }
  | _ => none }
def topTailsRow : OpenClaim := { program := "ytnaloeoiobcifaa", sum := "f6fd117114157254644339bcb947560bc622fbf693eef361c5975425b33209ff", func := "heartwood/hwtop.TopTails", spec := "topTails", inPlace := ["math/bits.Add64", "math/bits.Sub64"], unfollowed := true, recurses := true, named := ["math/bits.divideError", "math/bits.overflowError"], apart := false }
def TopTailsSaid : Prop := topTailsRow.holds Try.pinned (OpenSpec.ofChange topTailsSpec)

/-- ITS FALSE NEIGHBOUR: 'it returns false'. Refute it at one input. -/
def topTailsWrong : ChangeSpec := { name := "topTails", fn := fun _ => fun
  | [d1, d2] => { results := [.lit (.bool false)], args := [d1, d2] }
  | _ => none }
def TopTailsWrongFalsely : Prop := topTailsRow.holds Try.pinned (OpenSpec.ofChange topTailsWrong)

/- THE SECOND FORM. 'bulk': how many values and letters a reading holds, each counted each time it is reached (what is shared counts as often as it is met; a slice's spare places count too). A statement '..UptoSaid' is the law's where the arguments, and the package variables that the reading takes, are together of bulk at most 1048576: NARROWER than '..Said'. Prove '..Said' where nothing that the law and all that it calls make is longer than what came in: it says more and counts as full. Else prove '..UptoSaid'. A law counts once. -/
mutual
def uptoBulk {H : Type} : DataW H → Nat
  | .lit (.string bytes) => bytes.length + 1
  | .lit _ => 1
  | .nil => 1
  | .ptr d => uptoBulk d + 1
  | .slice elems spare => uptoBulkAll elems + uptoBulkAll spare + 1
  | .agg parts => uptoBulkAll parts + 1
  | .iface _ d => uptoBulk d + 1
  | .map entries => uptoBulkEntries entries + 1
  | .held _ => 1
def uptoBulkAll {H : Type} : List (DataW H) → Nat
  | [] => 0
  | d :: r => uptoBulk d + uptoBulkAll r
def uptoBulkEntries {H : Type} : List (Lit × DataW H) → Nat
  | [] => 0
  | x :: r => uptoBulkEntry x + uptoBulkEntries r
def uptoBulkEntry {H : Type} : Lit × DataW H → Nat
  | (.string bytes, d) => bytes.length + uptoBulk d + 1
  | (_, d) => uptoBulk d + 1
 end
def uptoSmall : (H : Type) → List (DataW H) → Bool := fun _ ds => decide (uptoBulkAll ds ≤ 1048576)
def OpenSpec.upto (s : _root_.Go.ChangeSpec) : _root_.Go.OpenSpec := { _root_.Go.OpenSpec.ofChange s with cond := some uptoSmall }

/-- 'hwlaw.RankPuts', WHERE WHAT IT READS IS OF BULK AT MOST 1048576: true; the input reads as it did. -/
def rankPutsUptoRow : OpenClaim := { program := "ytnaloeoiobcifaa", sum := "f6fd117114157254644339bcb947560bc622fbf693eef361c5975425b33209ff", func := "heartwood/hwlaw.RankPuts", spec := "rankPuts", unfollowed := true, recurses := true, apart := false, narrowed := true }
def RankPutsUptoSaid : Prop := rankPutsUptoRow.holds Try.pinned (OpenSpec.upto rankPutsSpec)

/-- 'hwlaw.TailSays', WHERE WHAT IT READS IS OF BULK AT MOST 1048576: true; the input reads as it did. -/
def tailSaysUptoRow : OpenClaim := { program := "ytnaloeoiobcifaa", sum := "f6fd117114157254644339bcb947560bc622fbf693eef361c5975425b33209ff", func := "heartwood/hwlaw.TailSays", spec := "tailSays", inPlace := ["math/bits.Add64", "math/bits.Sub64"], unfollowed := true, recurses := true, named := ["math/bits.divideError", "math/bits.overflowError"], apart := false, narrowed := true }
def TailSaysUptoSaid : Prop := tailSaysUptoRow.holds Try.pinned (OpenSpec.upto tailSaysSpec)

/-- 'hwlaw.HistSays', WHERE WHAT IT READS IS OF BULK AT MOST 1048576: true; the input reads as it did. -/
def histSaysUptoRow : OpenClaim := { program := "ytnaloeoiobcifaa", sum := "f6fd117114157254644339bcb947560bc622fbf693eef361c5975425b33209ff", func := "heartwood/hwlaw.HistSays", spec := "histSays", unfollowed := true, recurses := true, apart := false, narrowed := true }
def HistSaysUptoSaid : Prop := histSaysUptoRow.holds Try.pinned (OpenSpec.upto histSaysSpec)

/-- 'hwlaw.ChenSays', WHERE WHAT IT READS IS OF BULK AT MOST 1048576: true; the input reads as it did. -/
def chenSaysUptoRow : OpenClaim := { program := "ytnaloeoiobcifaa", sum := "f6fd117114157254644339bcb947560bc622fbf693eef361c5975425b33209ff", func := "heartwood/hwlaw.ChenSays", spec := "chenSays", unfollowed := true, recurses := true, apart := false, narrowed := true }
def ChenSaysUptoSaid : Prop := chenSaysUptoRow.holds Try.pinned (OpenSpec.upto chenSaysSpec)

/-- 'hwkeep.StatJoins', WHERE WHAT IT READS IS OF BULK AT MOST 1048576: true; the input reads as it did. -/
def statJoinsUptoRow : OpenClaim := { program := "ytnaloeoiobcifaa", sum := "f6fd117114157254644339bcb947560bc622fbf693eef361c5975425b33209ff", func := "heartwood/hwkeep.StatJoins", spec := "statJoins", unfollowed := true, recurses := true, apart := false, narrowed := true }
def StatJoinsUptoSaid : Prop := statJoinsUptoRow.holds Try.pinned (OpenSpec.upto statJoinsSpec)

/-- 'hwkeep.HistCounts', WHERE WHAT IT READS IS OF BULK AT MOST 1048576: true; the input reads as it did. -/
def histCountsUptoRow : OpenClaim := { program := "ytnaloeoiobcifaa", sum := "f6fd117114157254644339bcb947560bc622fbf693eef361c5975425b33209ff", func := "heartwood/hwkeep.HistCounts", spec := "histCounts", unfollowed := true, recurses := true, apart := false, narrowed := true }
def HistCountsUptoSaid : Prop := histCountsUptoRow.holds Try.pinned (OpenSpec.upto histCountsSpec)

/-- 'hwkeep.GateOnce', WHERE WHAT IT READS IS OF BULK AT MOST 1048576: true; the input reads as it did. -/
def gateOnceUptoRow : OpenClaim := { program := "ytnaloeoiobcifaa", sum := "f6fd117114157254644339bcb947560bc622fbf693eef361c5975425b33209ff", func := "heartwood/hwkeep.GateOnce", spec := "gateOnce", apart := false, narrowed := true }
def GateOnceUptoSaid : Prop := gateOnceUptoRow.holds Try.pinned (OpenSpec.upto gateOnceSpec)

/-- 'hwkeep.ChenExact', WHERE WHAT IT READS IS OF BULK AT MOST 1048576: true; the input reads as it did. -/
def chenExactUptoRow : OpenClaim := { program := "ytnaloeoiobcifaa", sum := "f6fd117114157254644339bcb947560bc622fbf693eef361c5975425b33209ff", func := "heartwood/hwkeep.ChenExact", spec := "chenExact", unfollowed := true, recurses := true, apart := false, narrowed := true }
def ChenExactUptoSaid : Prop := chenExactUptoRow.holds Try.pinned (OpenSpec.upto chenExactSpec)

/-- 'hwkeep.LateIs', WHERE WHAT IT READS IS OF BULK AT MOST 1048576: true; the input reads as it did. -/
def lateIsUptoRow : OpenClaim := { program := "ytnaloeoiobcifaa", sum := "f6fd117114157254644339bcb947560bc622fbf693eef361c5975425b33209ff", func := "heartwood/hwkeep.LateIs", spec := "lateIs", unfollowed := true, recurses := true, apart := false, narrowed := true }
def LateIsUptoSaid : Prop := lateIsUptoRow.holds Try.pinned (OpenSpec.upto lateIsSpec)

/-- 'hwkeep.HistGrows', WHERE WHAT IT READS IS OF BULK AT MOST 1048576: true; the input reads as it did. -/
def histGrowsUptoRow : OpenClaim := { program := "ytnaloeoiobcifaa", sum := "f6fd117114157254644339bcb947560bc622fbf693eef361c5975425b33209ff", func := "heartwood/hwkeep.HistGrows", spec := "histGrows", unfollowed := true, recurses := true, apart := false, narrowed := true }
def HistGrowsUptoSaid : Prop := histGrowsUptoRow.holds Try.pinned (OpenSpec.upto histGrowsSpec)

/-- 'hwkeep.FadeSame', WHERE WHAT IT READS IS OF BULK AT MOST 1048576: true; the input reads as it did. -/
def fadeSameUptoRow : OpenClaim := { program := "ytnaloeoiobcifaa", sum := "f6fd117114157254644339bcb947560bc622fbf693eef361c5975425b33209ff", func := "heartwood/hwkeep.FadeSame", spec := "fadeSame", unfollowed := true, recurses := true, apart := false, narrowed := true }
def FadeSameUptoSaid : Prop := fadeSameUptoRow.holds Try.pinned (OpenSpec.upto fadeSameSpec)

/-- 'hwkeep.ChenBetween', WHERE WHAT IT READS IS OF BULK AT MOST 1048576: true; the input reads as it did. -/
def chenBetweenUptoRow : OpenClaim := { program := "ytnaloeoiobcifaa", sum := "f6fd117114157254644339bcb947560bc622fbf693eef361c5975425b33209ff", func := "heartwood/hwkeep.ChenBetween", spec := "chenBetween", unfollowed := true, recurses := true, apart := false, narrowed := true }
def ChenBetweenUptoSaid : Prop := chenBetweenUptoRow.holds Try.pinned (OpenSpec.upto chenBetweenSpec)

/-- 'hwtop.TopTails', WHERE WHAT IT READS IS OF BULK AT MOST 1048576: true; the input reads as it did. -/
def topTailsUptoRow : OpenClaim := { program := "ytnaloeoiobcifaa", sum := "f6fd117114157254644339bcb947560bc622fbf693eef361c5975425b33209ff", func := "heartwood/hwtop.TopTails", spec := "topTails", inPlace := ["math/bits.Add64", "math/bits.Sub64"], unfollowed := true, recurses := true, named := ["math/bits.divideError", "math/bits.overflowError"], apart := false, narrowed := true }
def TopTailsUptoSaid : Prop := topTailsUptoRow.holds Try.pinned (OpenSpec.upto topTailsSpec)

end Rows
end Go.Proofs.Ytnaloeoiobcifaa
