/-
  No cell of these rows narrows 'for every input' (looked for: loops, veiled, ifaces, maps, wideKeys, modest, calm, conditions, laid).
  DERIVED. THE GIVEN ROWS OF THIS SEAT. 12 by the template 'for every input the law returns true; each argument reads behind the call as it read before'; 0 by the template 'total and deterministic' (their statements: YtnblokihjilopaaTotals.lean).
  GIVEN WITH THE SEED: the statements are not yours to turn. If you find one false, say at which input.
  Laid BY PROGRAM, IN A SANDBOX (cutbox-rows.mjs): the forced cells as the released guide's own fill.sh prints them over the translation 59aec33ce58875a2… (all of the seat's roots in one cut). By AI agents, Wed Nov 11 2026. No macro, syntax, notation, axiom, sorry.
-/
import Derived.Test.YtnblokihjilopaaChecked
import GoSem.Claim
import GoSem.ClaimJoined
import GoSem.ClaimMapViews
import Derived.JoinedTies
import Derived.KernelRfl
namespace Go.Proofs.Ytnblokihjilopaa
/- THE CELL 'sum', in the pinned program and in every row, IS THE sha256 OF THE DUMP (.gsa) THAT YtnblokihjilopaaProg.lean LOADS. Nothing in Lean hashes anything: it is a label: what it is worth is what the hold of that sum in a sandbox is worth. -/
noncomputable def Try.pinned : Pinned := { name := "ytnblokihjilopaa", sum := "59aec33ce58875a22007d631e2b412732644cd7c6f92cd656668d6f4302c3876", checked := Try.checked }
namespace Rows
def none {H : Type} : Left H := { results := [], args := [] }

/-- 'hwlaw.RankSays': WHATEVER THE INPUT: true; the input reads as it did. -/
def rankSaysSpec : ChangeSpec := { name := "rankSays", fn := fun _ => fun
  | [d1, d2, d3, d4] => { results := [.lit (.bool true)], args := [d1, d2, d3, d4] }
  | _ => none }
def rankSaysRow : OpenClaim := { program := "ytnblokihjilopaa", sum := "59aec33ce58875a22007d631e2b412732644cd7c6f92cd656668d6f4302c3876", func := "heartwood/hwlaw.RankSays", spec := "rankSays", unfollowed := true, recurses := true, apart := false }
def RankSaysSaid : Prop := rankSaysRow.holds Try.pinned (OpenSpec.ofChange rankSaysSpec)

/-- ITS FALSE NEIGHBOUR: 'it returns false'. Refute it at one input. -/
def rankSaysWrong : ChangeSpec := { name := "rankSays", fn := fun _ => fun
  | [d1, d2, d3, d4] => { results := [.lit (.bool false)], args := [d1, d2, d3, d4] }
  | _ => none }
def RankSaysWrongFalsely : Prop := rankSaysRow.holds Try.pinned (OpenSpec.ofChange rankSaysWrong)

/-- 'hwlaw.RankPuts': WHATEVER THE INPUT: true; the input reads as it did. -/
def rankPutsSpec : ChangeSpec := { name := "rankPuts", fn := fun _ => fun
  | [d1, d2] => { results := [.lit (.bool true)], args := [d1, d2] }
  | _ => none }
def rankPutsRow : OpenClaim := { program := "ytnblokihjilopaa", sum := "59aec33ce58875a22007d631e2b412732644cd7c6f92cd656668d6f4302c3876", func := "heartwood/hwlaw.RankPuts", spec := "rankPuts", unfollowed := true, recurses := true, apart := false }
def RankPutsSaid : Prop := rankPutsRow.holds Try.pinned (OpenSpec.ofChange rankPutsSpec)

/-- ITS FALSE NEIGHBOUR: 'it returns false'. Refute it at one input. -/
def rankPutsWrong : ChangeSpec := { name := "rankPuts", fn := fun _ => fun
  | [d1, d2] => { results := [.lit (.bool false)], args := [d1, d2] }
  | _ => none }
def RankPutsWrongFalsely : Prop := rankPutsRow.holds Try.pinned (OpenSpec.ofChange rankPutsWrong)

/-- 'hwlaw.TailSays': WHATEVER THE INPUT: true; the input reads as it did. -/
def tailSaysSpec : ChangeSpec := { name := "tailSays", fn := fun _ => fun
  | [d1, d2, d3] => { results := [.lit (.bool true)], args := [d1, d2, d3] }
  | _ => none }
def tailSaysRow : OpenClaim := { program := "ytnblokihjilopaa", sum := "59aec33ce58875a22007d631e2b412732644cd7c6f92cd656668d6f4302c3876", func := "heartwood/hwlaw.TailSays", spec := "tailSays", inPlace := ["math/bits.Add64", "math/bits.Sub64"], unfollowed := true, recurses := true, named := ["math/bits.divideError", "math/bits.overflowError"], apart := false }
def TailSaysSaid : Prop := tailSaysRow.holds Try.pinned (OpenSpec.ofChange tailSaysSpec)

/-- ITS FALSE NEIGHBOUR: 'it returns false'. Refute it at one input. -/
def tailSaysWrong : ChangeSpec := { name := "tailSays", fn := fun _ => fun
  | [d1, d2, d3] => { results := [.lit (.bool false)], args := [d1, d2, d3] }
  | _ => none }
def TailSaysWrongFalsely : Prop := tailSaysRow.holds Try.pinned (OpenSpec.ofChange tailSaysWrong)

/-- 'hwlaw.HistSays': WHATEVER THE INPUT: true; the input reads as it did. -/
def histSaysSpec : ChangeSpec := { name := "histSays", fn := fun _ => fun
  | [d1, d2, d3, d4, d5] => { results := [.lit (.bool true)], args := [d1, d2, d3, d4, d5] }
  | _ => none }
def histSaysRow : OpenClaim := { program := "ytnblokihjilopaa", sum := "59aec33ce58875a22007d631e2b412732644cd7c6f92cd656668d6f4302c3876", func := "heartwood/hwlaw.HistSays", spec := "histSays", unfollowed := true, recurses := true, apart := false }
def HistSaysSaid : Prop := histSaysRow.holds Try.pinned (OpenSpec.ofChange histSaysSpec)

/-- ITS FALSE NEIGHBOUR: 'it returns false'. Refute it at one input. -/
def histSaysWrong : ChangeSpec := { name := "histSays", fn := fun _ => fun
  | [d1, d2, d3, d4, d5] => { results := [.lit (.bool false)], args := [d1, d2, d3, d4, d5] }
  | _ => none }
def HistSaysWrongFalsely : Prop := histSaysRow.holds Try.pinned (OpenSpec.ofChange histSaysWrong)

/-- 'hwkeep.DecBack': WHATEVER THE INPUT: true; the input reads as it did. -/
def decBackSpec : ChangeSpec := { name := "decBack", fn := fun _ => fun
  | [d1, d2, d3] => { results := [.lit (.bool true)], args := [d1, d2, d3] }
  | _ => none }
def decBackRow : OpenClaim := { program := "ytnblokihjilopaa", sum := "59aec33ce58875a22007d631e2b412732644cd7c6f92cd656668d6f4302c3876", func := "heartwood/hwkeep.DecBack", spec := "decBack", inPlace := ["math/bits.Add64", "math/bits.Sub64"], named := ["math/bits.divideError", "math/bits.overflowError"], apart := false }
def DecBackSaid : Prop := decBackRow.holds Try.pinned (OpenSpec.ofChange decBackSpec)

/-- ITS FALSE NEIGHBOUR: 'it returns false'. Refute it at one input. -/
def decBackWrong : ChangeSpec := { name := "decBack", fn := fun _ => fun
  | [d1, d2, d3] => { results := [.lit (.bool false)], args := [d1, d2, d3] }
  | _ => none }
def DecBackWrongFalsely : Prop := decBackRow.holds Try.pinned (OpenSpec.ofChange decBackWrong)

/-- 'hwkeep.StatJoins': WHATEVER THE INPUT: true; the input reads as it did. -/
def statJoinsSpec : ChangeSpec := { name := "statJoins", fn := fun _ => fun
  | [d1, d2, d3] => { results := [.lit (.bool true)], args := [d1, d2, d3] }
  | _ => none }
def statJoinsRow : OpenClaim := { program := "ytnblokihjilopaa", sum := "59aec33ce58875a22007d631e2b412732644cd7c6f92cd656668d6f4302c3876", func := "heartwood/hwkeep.StatJoins", spec := "statJoins", unfollowed := true, recurses := true, apart := false }
def StatJoinsSaid : Prop := statJoinsRow.holds Try.pinned (OpenSpec.ofChange statJoinsSpec)

/-- ITS FALSE NEIGHBOUR: 'it returns false'. Refute it at one input. -/
def statJoinsWrong : ChangeSpec := { name := "statJoins", fn := fun _ => fun
  | [d1, d2, d3] => { results := [.lit (.bool false)], args := [d1, d2, d3] }
  | _ => none }
def StatJoinsWrongFalsely : Prop := statJoinsRow.holds Try.pinned (OpenSpec.ofChange statJoinsWrong)

/-- 'hwkeep.HistCounts': WHATEVER THE INPUT: true; the input reads as it did. -/
def histCountsSpec : ChangeSpec := { name := "histCounts", fn := fun _ => fun
  | [d1, d2, d3, d4, d5] => { results := [.lit (.bool true)], args := [d1, d2, d3, d4, d5] }
  | _ => none }
def histCountsRow : OpenClaim := { program := "ytnblokihjilopaa", sum := "59aec33ce58875a22007d631e2b412732644cd7c6f92cd656668d6f4302c3876", func := "heartwood/hwkeep.HistCounts", spec := "histCounts", unfollowed := true, recurses := true, apart := false }
def HistCountsSaid : Prop := histCountsRow.holds Try.pinned (OpenSpec.ofChange histCountsSpec)

/-- ITS FALSE NEIGHBOUR: 'it returns false'. Refute it at one input. -/
def histCountsWrong : ChangeSpec := { name := "histCounts", fn := fun _ => fun
  | [d1, d2, d3, d4, d5] => { results := [.lit (.bool false)], args := [d1, d2, d3, d4, d5] }
  | _ => none }
def HistCountsWrongFalsely : Prop := histCountsRow.holds Try.pinned (OpenSpec.ofChange histCountsWrong)

/-- 'hwkeep.DecLong': WHATEVER THE INPUT: true; the input reads as it did. -/
def decLongSpec : ChangeSpec := { name := "decLong", fn := fun _ => fun
  | [d] => { results := [.lit (.bool true)], args := [d] }
  | _ => none }
def decLongRow : OpenClaim := { program := "ytnblokihjilopaa", sum := "59aec33ce58875a22007d631e2b412732644cd7c6f92cd656668d6f4302c3876", func := "heartwood/hwkeep.DecLong", spec := "decLong", inPlace := ["math/bits.Add64", "math/bits.Sub64"], named := ["math/bits.divideError", "math/bits.overflowError"], apart := false }
def DecLongSaid : Prop := decLongRow.holds Try.pinned (OpenSpec.ofChange decLongSpec)

/-- ITS FALSE NEIGHBOUR: 'it returns false'. Refute it at one input. -/
def decLongWrong : ChangeSpec := { name := "decLong", fn := fun _ => fun
  | [d] => { results := [.lit (.bool false)], args := [d] }
  | _ => none }
def DecLongWrongFalsely : Prop := decLongRow.holds Try.pinned (OpenSpec.ofChange decLongWrong)

/-- 'hwkeep.HistGrows': WHATEVER THE INPUT: true; the input reads as it did. -/
def histGrowsSpec : ChangeSpec := { name := "histGrows", fn := fun _ => fun
  | [d1, d2, d3, d4] => { results := [.lit (.bool true)], args := [d1, d2, d3, d4] }
  | _ => none }
def histGrowsRow : OpenClaim := { program := "ytnblokihjilopaa", sum := "59aec33ce58875a22007d631e2b412732644cd7c6f92cd656668d6f4302c3876", func := "heartwood/hwkeep.HistGrows", spec := "histGrows", unfollowed := true, recurses := true, apart := false }
def HistGrowsSaid : Prop := histGrowsRow.holds Try.pinned (OpenSpec.ofChange histGrowsSpec)

/-- ITS FALSE NEIGHBOUR: 'it returns false'. Refute it at one input. -/
def histGrowsWrong : ChangeSpec := { name := "histGrows", fn := fun _ => fun
  | [d1, d2, d3, d4] => { results := [.lit (.bool false)], args := [d1, d2, d3, d4] }
  | _ => none }
def HistGrowsWrongFalsely : Prop := histGrowsRow.holds Try.pinned (OpenSpec.ofChange histGrowsWrong)

/-- 'hwkeep.FadeSame': WHATEVER THE INPUT: true; the input reads as it did. -/
def fadeSameSpec : ChangeSpec := { name := "fadeSame", fn := fun _ => fun
  | [d1, d2, d3, d4, d5] => { results := [.lit (.bool true)], args := [d1, d2, d3, d4, d5] }
  | _ => none }
def fadeSameRow : OpenClaim := { program := "ytnblokihjilopaa", sum := "59aec33ce58875a22007d631e2b412732644cd7c6f92cd656668d6f4302c3876", func := "heartwood/hwkeep.FadeSame", spec := "fadeSame", unfollowed := true, recurses := true, apart := false }
def FadeSameSaid : Prop := fadeSameRow.holds Try.pinned (OpenSpec.ofChange fadeSameSpec)

/-- ITS FALSE NEIGHBOUR: 'it returns false'. Refute it at one input. -/
def fadeSameWrong : ChangeSpec := { name := "fadeSame", fn := fun _ => fun
  | [d1, d2, d3, d4, d5] => { results := [.lit (.bool false)], args := [d1, d2, d3, d4, d5] }
  | _ => none }
def FadeSameWrongFalsely : Prop := fadeSameRow.holds Try.pinned (OpenSpec.ofChange fadeSameWrong)

/-- 'hwtop.TopTails': WHATEVER THE INPUT: true; the input reads as it did. -/
def topTailsSpec : ChangeSpec := { name := "topTails", fn := fun _ => fun
  | [d1, d2] => { results := [.lit (.bool true)], args := [d1, d2] }
  | _ => none }
def topTailsRow : OpenClaim := { program := "ytnblokihjilopaa", sum := "59aec33ce58875a22007d631e2b412732644cd7c6f92cd656668d6f4302c3876", func := "heartwood/hwtop.TopTails", spec := "topTails", inPlace := ["math/bits.Add64", "math/bits.Sub64"], unfollowed := true, recurses := true, named := ["math/bits.divideError", "math/bits.overflowError"], apart := false }
def TopTailsSaid : Prop := topTailsRow.holds Try.pinned (OpenSpec.ofChange topTailsSpec)

/-- ITS FALSE NEIGHBOUR: 'it returns false'. Refute it at one input. -/
def topTailsWrong : ChangeSpec := { name := "topTails", fn := fun _ => fun
  | [d1, d2] => { results := [.lit (.bool false)], args := [d1, d2] }
  | _ => none }
def TopTailsWrongFalsely : Prop := topTailsRow.holds Try.pinned (OpenSpec.ofChange topTailsWrong)

/-- 'hwtop.TopRoot': WHATEVER THE INPUT: true; the input reads as it did. -/
def topRootSpec : ChangeSpec := { name := "topRoot", fn := fun _ => fun
  | [d] => { results := [.lit (.bool true)], args := [d] }
  | _ => none }
def topRootRow : OpenClaim := { program := "ytnblokihjilopaa", sum := "59aec33ce58875a22007d631e2b412732644cd7c6f92cd656668d6f4302c3876", func := "heartwood/hwtop.TopRoot", spec := "topRoot", inPlace := ["math/bits.Add64", "math/bits.Sub64"], unfollowed := true, recurses := true, named := ["math/bits.divideError", "math/bits.overflowError"], apart := false }
def TopRootSaid : Prop := topRootRow.holds Try.pinned (OpenSpec.ofChange topRootSpec)

/-- ITS FALSE NEIGHBOUR: 'it returns false'. Refute it at one input. -/
def topRootWrong : ChangeSpec := { name := "topRoot", fn := fun _ => fun
  | [d] => { results := [.lit (.bool false)], args := [d] }
  | _ => none }
def TopRootWrongFalsely : Prop := topRootRow.holds Try.pinned (OpenSpec.ofChange topRootWrong)

/- THE SECOND FORM. 'bulk': how many values and letters a reading holds, each counted each time it is reached (what is shared counts as often as it is met; a slice's spare places count too). A statement '..UptoSaid' is the law's where the arguments, and the package variables that the reading takes, are together of bulk at most 1048576: NARROWER than '..Said'. Prove '..Said' where nothing that the law and all that it calls make is longer than what came in: it says more and counts as full. Else prove '..UptoSaid'. A law counts once. -/
mutual
def uptoBulk {H : Type} : DataW H → Nat
  | .lit (.string bytes) => bytes.length + 1
  | .lit _ => 1
  | .nil => 1
  | .ptr d => uptoBulk d + 1
  | .slice elems spare => uptoBulkAll elems + uptoBulkAll spare + 1
  | .agg parts => uptoBulkAll parts + 1
  | .iface _ d => uptoBulk d + 1
  | .map entries => uptoBulkEntries entries + 1
  | .held _ => 1
def uptoBulkAll {H : Type} : List (DataW H) → Nat
  | [] => 0
  | d :: r => uptoBulk d + uptoBulkAll r
def uptoBulkEntries {H : Type} : List (Lit × DataW H) → Nat
  | [] => 0
  | x :: r => uptoBulkEntry x + uptoBulkEntries r
def uptoBulkEntry {H : Type} : Lit × DataW H → Nat
  | (.string bytes, d) => bytes.length + uptoBulk d + 1
  | (_, d) => uptoBulk d + 1
 end
def uptoSmall : (H : Type) → List (DataW H) → Bool := fun _ ds => decide (uptoBulkAll ds ≤ 1048576)
def OpenSpec.upto (s : _root_.Go.ChangeSpec) : _root_.Go.OpenSpec := { _root_.Go.OpenSpec.ofChange s with cond := some uptoSmall }

/-- 'hwlaw.RankSays', WHERE WHAT IT READS IS OF BULK AT MOST 1048576: true; the input reads as it did. -/
def rankSaysUptoRow : OpenClaim := { program := "ytnblokihjilopaa", sum := "59aec33ce58875a22007d631e2b412732644cd7c6f92cd656668d6f4302c3876", func := "heartwood/hwlaw.RankSays", spec := "rankSays", unfollowed := true, recurses := true, apart := false, narrowed := true }
def RankSaysUptoSaid : Prop := rankSaysUptoRow.holds Try.pinned (OpenSpec.upto rankSaysSpec)

/-- 'hwlaw.RankPuts', WHERE WHAT IT READS IS OF BULK AT MOST 1048576: true; the input reads as it did. -/
def rankPutsUptoRow : OpenClaim := { program := "ytnblokihjilopaa", sum := "59aec33ce58875a22007d631e2b412732644cd7c6f92cd656668d6f4302c3876", func := "heartwood/hwlaw.RankPuts", spec := "rankPuts", unfollowed := true, recurses := true, apart := false, narrowed := true }
def RankPutsUptoSaid : Prop := rankPutsUptoRow.holds Try.pinned (OpenSpec.upto rankPutsSpec)

/-- 'hwlaw.TailSays', WHERE WHAT IT READS IS OF BULK AT MOST 1048576: true; the input reads as it did. -/
def tailSaysUptoRow : OpenClaim := { program := "ytnblokihjilopaa", sum := "59aec33ce58875a22007d631e2b412732644cd7c6f92cd656668d6f4302c3876", func := "heartwood/hwlaw.TailSays", spec := "tailSays", inPlace := ["math/bits.Add64", "math/bits.Sub64"], unfollowed := true, recurses := true, named := ["math/bits.divideError", "math/bits.overflowError"], apart := false, narrowed := true }
def TailSaysUptoSaid : Prop := tailSaysUptoRow.holds Try.pinned (OpenSpec.upto tailSaysSpec)

/-- 'hwlaw.HistSays', WHERE WHAT IT READS IS OF BULK AT MOST 1048576: true; the input reads as it did. -/
def histSaysUptoRow : OpenClaim := { program := "ytnblokihjilopaa", sum := "59aec33ce58875a22007d631e2b412732644cd7c6f92cd656668d6f4302c3876", func := "heartwood/hwlaw.HistSays", spec := "histSays", unfollowed := true, recurses := true, apart := false, narrowed := true }
def HistSaysUptoSaid : Prop := histSaysUptoRow.holds Try.pinned (OpenSpec.upto histSaysSpec)

/-- 'hwkeep.DecBack', WHERE WHAT IT READS IS OF BULK AT MOST 1048576: true; the input reads as it did. -/
def decBackUptoRow : OpenClaim := { program := "ytnblokihjilopaa", sum := "59aec33ce58875a22007d631e2b412732644cd7c6f92cd656668d6f4302c3876", func := "heartwood/hwkeep.DecBack", spec := "decBack", inPlace := ["math/bits.Add64", "math/bits.Sub64"], named := ["math/bits.divideError", "math/bits.overflowError"], apart := false, narrowed := true }
def DecBackUptoSaid : Prop := decBackUptoRow.holds Try.pinned (OpenSpec.upto decBackSpec)

/-- 'hwkeep.StatJoins', WHERE WHAT IT READS IS OF BULK AT MOST 1048576: true; the input reads as it did. -/
def statJoinsUptoRow : OpenClaim := { program := "ytnblokihjilopaa", sum := "59aec33ce58875a22007d631e2b412732644cd7c6f92cd656668d6f4302c3876", func := "heartwood/hwkeep.StatJoins", spec := "statJoins", unfollowed := true, recurses := true, apart := false, narrowed := true }
def StatJoinsUptoSaid : Prop := statJoinsUptoRow.holds Try.pinned (OpenSpec.upto statJoinsSpec)

/-- 'hwkeep.HistCounts', WHERE WHAT IT READS IS OF BULK AT MOST 1048576: true; the input reads as it did. -/
def histCountsUptoRow : OpenClaim := { program := "ytnblokihjilopaa", sum := "59aec33ce58875a22007d631e2b412732644cd7c6f92cd656668d6f4302c3876", func := "heartwood/hwkeep.HistCounts", spec := "histCounts", unfollowed := true, recurses := true, apart := false, narrowed := true }
def HistCountsUptoSaid : Prop := histCountsUptoRow.holds Try.pinned (OpenSpec.upto histCountsSpec)

/-- 'hwkeep.DecLong', WHERE WHAT IT READS IS OF BULK AT MOST 1048576: true; the input reads as it did. -/
def decLongUptoRow : OpenClaim := { program := "ytnblokihjilopaa", sum := "59aec33ce58875a22007d631e2b412732644cd7c6f92cd656668d6f4302c3876", func := "heartwood/hwkeep.DecLong", spec := "decLong", inPlace := ["math/bits.Add64", "math/bits.Sub64"], named := ["math/bits.divideError", "math/bits.overflowError"], apart := false, narrowed := true }
def DecLongUptoSaid : Prop := decLongUptoRow.holds Try.pinned (OpenSpec.upto decLongSpec)

/-- 'hwkeep.HistGrows', WHERE WHAT IT READS IS OF BULK AT MOST 1048576: true; the input reads as it did. -/
def histGrowsUptoRow : OpenClaim := { program := "ytnblokihjilopaa", sum := "59aec33ce58875a22007d631e2b412732644cd7c6f92cd656668d6f4302c3876", func := "heartwood/hwkeep.HistGrows", spec := "histGrows", unfollowed := true, recurses := true, apart := false, narrowed := true }
def HistGrowsUptoSaid : Prop := histGrowsUptoRow.holds Try.pinned (OpenSpec.upto histGrowsSpec)

/-- 'hwkeep.FadeSame', WHERE WHAT IT READS IS OF BULK AT MOST 1048576: true; the input reads as it did. -/
def fadeSameUptoRow : OpenClaim := { program := "ytnblokihjilopaa", sum := "59aec33ce58875a22007d631e2b412732644cd7c6f92cd656668d6f4302c3876", func := "heartwood/hwkeep.FadeSame", spec := "fadeSame", unfollowed := true, recurses := true, apart := false, narrowed := true }
def FadeSameUptoSaid : Prop := fadeSameUptoRow.holds Try.pinned (OpenSpec.upto fadeSameSpec)

/-- 'hwtop.TopTails', WHERE WHAT IT READS IS OF BULK AT MOST 1048576: true; the input reads as it did. -/
def topTailsUptoRow : OpenClaim := { program := "ytnblokihjilopaa", sum := "59aec33ce58875a22007d631e2b412732644cd7c6f92cd656668d6f4302c3876", func := "heartwood/hwtop.TopTails", spec := "topTails", inPlace := ["math/bits.Add64", "math/bits.Sub64"], unfollowed := true, recurses := true, named := ["math/bits.divideError", "math/bits.overflowError"], apart := false, narrowed := true }
def TopTailsUptoSaid : Prop := topTailsUptoRow.holds Try.pinned (OpenSpec.upto topTailsSpec)

/-- 'hwtop.TopRoot', WHERE WHAT IT READS IS OF BULK AT MOST 1048576: true; the input reads as it did. -/
def topRootUptoRow : OpenClaim := { program := "ytnblokihjilopaa", sum := "59aec33ce58875a22007d631e2b412732644cd7c6f92cd656668d6f4302c3876", func := "heartwood/hwtop.TopRoot", spec := "topRoot", inPlace := ["math/bits.Add64", "math/bits.Sub64"], unfollowed := true, recurses := true, named := ["math/bits.divideError", "math/bits.overflowError"], apart := false, narrowed := true }
def TopRootUptoSaid : Prop := topRootUptoRow.holds Try.pinned (OpenSpec.upto topRootSpec)

end Rows
end Go.Proofs.Ytnblokihjilopaa
