/-
  No cell of these rows narrows 'for every input' (looked for: loops, veiled, ifaces, maps, wideKeys, modest, calm, conditions, laid).
  DERIVED. THE GIVEN ROWS OF THIS SEAT. 17 by the template 'for every input the law returns true; each argument reads behind the call as it read before'; 0 by the template 'total and deterministic' (their statements: YtcfiknifbebdjaaTotals.lean).
  GIVEN WITH THE SEED: the statements are not yours to turn. If you find one false, say at which input.
  Laid BY PROGRAM, IN A SANDBOX (cutbox-rows.mjs): the forced cells as the released guide's own fill.sh prints them over the translation 0b77c030dd2b1772… (all of the seat's roots in one cut). By AI agents, Wed Nov 11 2026. No macro, syntax, notation, axiom, sorry.
-/
import Derived.Test.YtcfiknifbebdjaaChecked
import GoSem.Claim
import GoSem.ClaimJoined
import GoSem.ClaimMapViews
import Derived.JoinedTies
import Derived.KernelRfl
namespace Go.Proofs.Ytcfiknifbebdjaa
/- THE CELL 'sum', in the pinned program and in every row, IS THE sha256 OF THE DUMP (.gsa) THAT YtcfiknifbebdjaaProg.lean LOADS. Nothing in Lean hashes anything: it is a label: what it is worth is what the hold of that sum in a sandbox is worth. -/
noncomputable def Try.pinned : Pinned := { name := "ytcfiknifbebdjaa", sum := "0b77c030dd2b177207e08b87546b9c2fa715fa7a8902768f411c3dc6c7c13d1b", checked := Try.checked }
namespace Rows
def none {H : Type} : Left H := { results := [], args := [] }

/-- 'hwlaw.RankSays': WHATEVER THE INPUT: true; the input reads as it did. -/
def rankSaysSpec : ChangeSpec := { name := "rankSays", fn := fun _ => fun
  | [d1, d2, d3, d4] => { results := [.lit (.bool true)], args := [d1, d2, d3, d4] }
  | _ => none }
def rankSaysRow : OpenClaim := { program := "ytcfiknifbebdjaa", sum := "0b77c030dd2b177207e08b87546b9c2fa715fa7a8902768f411c3dc6c7c13d1b", func := "heartwood/hwlaw.RankSays", spec := "rankSays", unfollowed := true, recurses := true, apart := false }
def RankSaysSaid : Prop := rankSaysRow.holds Try.pinned (OpenSpec.ofChange rankSaysSpec)

/-- ITS FALSE NEIGHBOUR: 'it returns false'. Refute it at one input. -/
def rankSaysWrong : ChangeSpec := { name := "rankSays", fn := fun _ => fun
  | [d1, d2, d3, d4] => { results := [.lit (.bool false)], args := [d1, d2, d3, d4] }
  | _ => none }
def RankSaysWrongFalsely : Prop := rankSaysRow.holds Try.pinned (OpenSpec.ofChange rankSaysWrong)

/-- 'hwlaw.RankPuts': WHATEVER THE INPUT: true; the input reads as it did. -/
def rankPutsSpec : ChangeSpec := { name := "rankPuts", fn := fun _ => fun
  | [d1, d2] => { results := [.lit (.bool true)], args := [d1, d2] }
  | _ => none }
def rankPutsRow : OpenClaim := { program := "ytcfiknifbebdjaa", sum := "0b77c030dd2b177207e08b87546b9c2fa715fa7a8902768f411c3dc6c7c13d1b", func := "heartwood/hwlaw.RankPuts", spec := "rankPuts", unfollowed := true, recurses := true, apart := false }
def RankPutsSaid : Prop := rankPutsRow.holds Try.pinned (OpenSpec.ofChange rankPutsSpec)

/-- ITS FALSE NEIGHBOUR: 'it returns false'. Refute it at one input. -/
def rankPutsWrong : ChangeSpec := { name := "rankPuts", fn := fun _ => fun
  | [d1, d2] => { results := [.lit (.bool false)], args := [d1, d2] }
  | _ => none }
def RankPutsWrongFalsely : Prop := rankPutsRow.holds Try.pinned (OpenSpec.ofChange rankPutsWrong)

/-- 'hwlaw.TailSays': WHATEVER THE INPUT: true; the input reads as it did. -/
def tailSaysSpec : ChangeSpec := { name := "tailSays", fn := fun _ => fun
  | [d1, d2, d3] => { results := [.lit (.bool true)], args := [d1, d2, d3] }
  | _ => none }
def tailSaysRow : OpenClaim := { program := "ytcfiknifbebdjaa", sum := "0b77c030dd2b177207e08b87546b9c2fa715fa7a8902768f411c3dc6c7c13d1b", func := "heartwood/hwlaw.TailSays", spec := "tailSays", inPlace := ["math/bits.Add64", "math/bits.Sub64"], unfollowed := true, recurses := true, named := ["math/bits.divideError", "math/bits.overflowError"], apart := false }
def TailSaysSaid : Prop := tailSaysRow.holds Try.pinned (OpenSpec.ofChange tailSaysSpec)

/-- ITS FALSE NEIGHBOUR: 'it returns false'. Refute it at one input. -/
def tailSaysWrong : ChangeSpec := { name := "tailSays", fn := fun _ => fun
  | [d1, d2, d3] => { results := [.lit (.bool false)], args := [d1, d2, d3] }
  | _ => none }
def TailSaysWrongFalsely : Prop := tailSaysRow.holds Try.pinned (OpenSpec.ofChange tailSaysWrong)

/-- 'hwkeep.RankSorts': WHATEVER THE INPUT: true; the input reads as it did. -/
def rankSortsSpec : ChangeSpec := { name := "rankSorts", fn := fun _ => fun
  | [d1, d2] => { results := [.lit (.bool true)], args := [d1, d2] }
  | _ => none }
def rankSortsRow : OpenClaim := { program := "ytcfiknifbebdjaa", sum := "0b77c030dd2b177207e08b87546b9c2fa715fa7a8902768f411c3dc6c7c13d1b", func := "heartwood/hwkeep.RankSorts", spec := "rankSorts", unfollowed := true, recurses := true, apart := false }
def RankSortsSaid : Prop := rankSortsRow.holds Try.pinned (OpenSpec.ofChange rankSortsSpec)

/-- ITS FALSE NEIGHBOUR: 'it returns false'. Refute it at one input. -/
def rankSortsWrong : ChangeSpec := { name := "rankSorts", fn := fun _ => fun
  | [d1, d2] => { results := [.lit (.bool false)], args := [d1, d2] }
  | _ => none }
def RankSortsWrongFalsely : Prop := rankSortsRow.holds Try.pinned (OpenSpec.ofChange rankSortsWrong)

/-- 'hwkeep.RankPart': WHATEVER THE INPUT: true; the input reads as it did. -/
def rankPartSpec : ChangeSpec := { name := "rankPart", fn := fun _ => fun
  | [d1, d2, d3, d4] => { results := [.lit (.bool true)], args := [d1, d2, d3, d4] }
  | _ => none }
def rankPartRow : OpenClaim := { program := "ytcfiknifbebdjaa", sum := "0b77c030dd2b177207e08b87546b9c2fa715fa7a8902768f411c3dc6c7c13d1b", func := "heartwood/hwkeep.RankPart", spec := "rankPart", unfollowed := true, recurses := true, apart := false }
def RankPartSaid : Prop := rankPartRow.holds Try.pinned (OpenSpec.ofChange rankPartSpec)

/-- ITS FALSE NEIGHBOUR: 'it returns false'. Refute it at one input. -/
def rankPartWrong : ChangeSpec := { name := "rankPart", fn := fun _ => fun
  | [d1, d2, d3, d4] => { results := [.lit (.bool false)], args := [d1, d2, d3, d4] }
  | _ => none }
def RankPartWrongFalsely : Prop := rankPartRow.holds Try.pinned (OpenSpec.ofChange rankPartWrong)

/-- 'hwkeep.RankMedian': WHATEVER THE INPUT: true; the input reads as it did. -/
def rankMedianSpec : ChangeSpec := { name := "rankMedian", fn := fun _ => fun
  | [d1, d2] => { results := [.lit (.bool true)], args := [d1, d2] }
  | _ => none }
def rankMedianRow : OpenClaim := { program := "ytcfiknifbebdjaa", sum := "0b77c030dd2b177207e08b87546b9c2fa715fa7a8902768f411c3dc6c7c13d1b", func := "heartwood/hwkeep.RankMedian", spec := "rankMedian", unfollowed := true, recurses := true, apart := false }
def RankMedianSaid : Prop := rankMedianRow.holds Try.pinned (OpenSpec.ofChange rankMedianSpec)

/-- ITS FALSE NEIGHBOUR: 'it returns false'. Refute it at one input. -/
def rankMedianWrong : ChangeSpec := { name := "rankMedian", fn := fun _ => fun
  | [d1, d2] => { results := [.lit (.bool false)], args := [d1, d2] }
  | _ => none }
def RankMedianWrongFalsely : Prop := rankMedianRow.holds Try.pinned (OpenSpec.ofChange rankMedianWrong)

/-- 'hwkeep.RankNear': WHATEVER THE INPUT: true; the input reads as it did. -/
def rankNearSpec : ChangeSpec := { name := "rankNear", fn := fun _ => fun
  | [d] => { results := [.lit (.bool true)], args := [d] }
  | _ => none }
def rankNearRow : OpenClaim := { program := "ytcfiknifbebdjaa", sum := "0b77c030dd2b177207e08b87546b9c2fa715fa7a8902768f411c3dc6c7c13d1b", func := "heartwood/hwkeep.RankNear", spec := "rankNear", unfollowed := true, recurses := true, apart := false }
def RankNearSaid : Prop := rankNearRow.holds Try.pinned (OpenSpec.ofChange rankNearSpec)

/-- ITS FALSE NEIGHBOUR: 'it returns false'. Refute it at one input. -/
def rankNearWrong : ChangeSpec := { name := "rankNear", fn := fun _ => fun
  | [d] => { results := [.lit (.bool false)], args := [d] }
  | _ => none }
def RankNearWrongFalsely : Prop := rankNearRow.holds Try.pinned (OpenSpec.ofChange rankNearWrong)

/-- 'hwkeep.RankPutCut': WHATEVER THE INPUT: true; the input reads as it did. -/
def rankPutCutSpec : ChangeSpec := { name := "rankPutCut", fn := fun _ => fun
  | [d1, d2] => { results := [.lit (.bool true)], args := [d1, d2] }
  | _ => none }
def rankPutCutRow : OpenClaim := { program := "ytcfiknifbebdjaa", sum := "0b77c030dd2b177207e08b87546b9c2fa715fa7a8902768f411c3dc6c7c13d1b", func := "heartwood/hwkeep.RankPutCut", spec := "rankPutCut", unfollowed := true, recurses := true, apart := false }
def RankPutCutSaid : Prop := rankPutCutRow.holds Try.pinned (OpenSpec.ofChange rankPutCutSpec)

/-- ITS FALSE NEIGHBOUR: 'it returns false'. Refute it at one input. -/
def rankPutCutWrong : ChangeSpec := { name := "rankPutCut", fn := fun _ => fun
  | [d1, d2] => { results := [.lit (.bool false)], args := [d1, d2] }
  | _ => none }
def RankPutCutWrongFalsely : Prop := rankPutCutRow.holds Try.pinned (OpenSpec.ofChange rankPutCutWrong)

/-- 'hwkeep.TailMarkov': WHATEVER THE INPUT: true; the input reads as it did. -/
def tailMarkovSpec : ChangeSpec := { name := "tailMarkov", fn := fun _ => fun
  | [d1, d2] => { results := [.lit (.bool true)], args := [d1, d2] }
  | _ => none }
def tailMarkovRow : OpenClaim := { program := "ytcfiknifbebdjaa", sum := "0b77c030dd2b177207e08b87546b9c2fa715fa7a8902768f411c3dc6c7c13d1b", func := "heartwood/hwkeep.TailMarkov", spec := "tailMarkov", unfollowed := true, recurses := true, apart := false }
def TailMarkovSaid : Prop := tailMarkovRow.holds Try.pinned (OpenSpec.ofChange tailMarkovSpec)

/-- ITS FALSE NEIGHBOUR: 'it returns false'. Refute it at one input. -/
def tailMarkovWrong : ChangeSpec := { name := "tailMarkov", fn := fun _ => fun
  | [d1, d2] => { results := [.lit (.bool false)], args := [d1, d2] }
  | _ => none }
def TailMarkovWrongFalsely : Prop := tailMarkovRow.holds Try.pinned (OpenSpec.ofChange tailMarkovWrong)

/-- 'hwkeep.TailChebyshev': WHATEVER THE INPUT: true; the input reads as it did. -/
def tailChebyshevSpec : ChangeSpec := { name := "tailChebyshev", fn := fun _ => fun
  | [d1, d2] => { results := [.lit (.bool true)], args := [d1, d2] }
  | _ => none }
def tailChebyshevRow : OpenClaim := { program := "ytcfiknifbebdjaa", sum := "0b77c030dd2b177207e08b87546b9c2fa715fa7a8902768f411c3dc6c7c13d1b", func := "heartwood/hwkeep.TailChebyshev", spec := "tailChebyshev", unfollowed := true, recurses := true, apart := false }
def TailChebyshevSaid : Prop := tailChebyshevRow.holds Try.pinned (OpenSpec.ofChange tailChebyshevSpec)

/-- ITS FALSE NEIGHBOUR: 'it returns false'. Refute it at one input. -/
def tailChebyshevWrong : ChangeSpec := { name := "tailChebyshev", fn := fun _ => fun
  | [d1, d2] => { results := [.lit (.bool false)], args := [d1, d2] }
  | _ => none }
def TailChebyshevWrongFalsely : Prop := tailChebyshevRow.holds Try.pinned (OpenSpec.ofChange tailChebyshevWrong)

/-- 'hwkeep.TailCantelli': WHATEVER THE INPUT: true; the input reads as it did. -/
def tailCantelliSpec : ChangeSpec := { name := "tailCantelli", fn := fun _ => fun
  | [d1, d2, d3] => { results := [.lit (.bool true)], args := [d1, d2, d3] }
  | _ => none }
def tailCantelliRow : OpenClaim := { program := "ytcfiknifbebdjaa", sum := "0b77c030dd2b177207e08b87546b9c2fa715fa7a8902768f411c3dc6c7c13d1b", func := "heartwood/hwkeep.TailCantelli", spec := "tailCantelli", inPlace := ["math/bits.Add64", "math/bits.Sub64"], unfollowed := true, recurses := true, named := ["math/bits.divideError", "math/bits.overflowError"], apart := false }
def TailCantelliSaid : Prop := tailCantelliRow.holds Try.pinned (OpenSpec.ofChange tailCantelliSpec)

/-- ITS FALSE NEIGHBOUR: 'it returns false'. Refute it at one input. -/
def tailCantelliWrong : ChangeSpec := { name := "tailCantelli", fn := fun _ => fun
  | [d1, d2, d3] => { results := [.lit (.bool false)], args := [d1, d2, d3] }
  | _ => none }
def TailCantelliWrongFalsely : Prop := tailCantelliRow.holds Try.pinned (OpenSpec.ofChange tailCantelliWrong)

/-- 'hwkeep.RankEnds': WHATEVER THE INPUT: true; the input reads as it did. -/
def rankEndsSpec : ChangeSpec := { name := "rankEnds", fn := fun _ => fun
  | [d1, d2, d3, d4] => { results := [.lit (.bool true)], args := [d1, d2, d3, d4] }
  | _ => none }
def rankEndsRow : OpenClaim := { program := "ytcfiknifbebdjaa", sum := "0b77c030dd2b177207e08b87546b9c2fa715fa7a8902768f411c3dc6c7c13d1b", func := "heartwood/hwkeep.RankEnds", spec := "rankEnds", unfollowed := true, recurses := true, apart := false }
def RankEndsSaid : Prop := rankEndsRow.holds Try.pinned (OpenSpec.ofChange rankEndsSpec)

/-- ITS FALSE NEIGHBOUR: 'it returns false'. Refute it at one input. -/
def rankEndsWrong : ChangeSpec := { name := "rankEnds", fn := fun _ => fun
  | [d1, d2, d3, d4] => { results := [.lit (.bool false)], args := [d1, d2, d3, d4] }
  | _ => none }
def RankEndsWrongFalsely : Prop := rankEndsRow.holds Try.pinned (OpenSpec.ofChange rankEndsWrong)

/-- 'hwkeep.RankFar': WHATEVER THE INPUT: true; the input reads as it did. -/
def rankFarSpec : ChangeSpec := { name := "rankFar", fn := fun _ => fun
  | [d1, d2, d3] => { results := [.lit (.bool true)], args := [d1, d2, d3] }
  | _ => none }
def rankFarRow : OpenClaim := { program := "ytcfiknifbebdjaa", sum := "0b77c030dd2b177207e08b87546b9c2fa715fa7a8902768f411c3dc6c7c13d1b", func := "heartwood/hwkeep.RankFar", spec := "rankFar", unfollowed := true, recurses := true, apart := false }
def RankFarSaid : Prop := rankFarRow.holds Try.pinned (OpenSpec.ofChange rankFarSpec)

/-- ITS FALSE NEIGHBOUR: 'it returns false'. Refute it at one input. -/
def rankFarWrong : ChangeSpec := { name := "rankFar", fn := fun _ => fun
  | [d1, d2, d3] => { results := [.lit (.bool false)], args := [d1, d2, d3] }
  | _ => none }
def RankFarWrongFalsely : Prop := rankFarRow.holds Try.pinned (OpenSpec.ofChange rankFarWrong)

/-- 'hwkeep.RankApart': WHATEVER THE INPUT: true; the input reads as it did. -/
def rankApartSpec : ChangeSpec := { name := "rankApart", fn := fun _ => fun
  | [d1, d2, d3] => { results := [.lit (.bool true)], args := [d1, d2, d3] }
  | _ => none }
def rankApartRow : OpenClaim := { program := "ytcfiknifbebdjaa", sum := "0b77c030dd2b177207e08b87546b9c2fa715fa7a8902768f411c3dc6c7c13d1b", func := "heartwood/hwkeep.RankApart", spec := "rankApart", unfollowed := true, recurses := true, apart := false }
def RankApartSaid : Prop := rankApartRow.holds Try.pinned (OpenSpec.ofChange rankApartSpec)

/-- ITS FALSE NEIGHBOUR: 'it returns false'. Refute it at one input. -/
def rankApartWrong : ChangeSpec := { name := "rankApart", fn := fun _ => fun
  | [d1, d2, d3] => { results := [.lit (.bool false)], args := [d1, d2, d3] }
  | _ => none }
def RankApartWrongFalsely : Prop := rankApartRow.holds Try.pinned (OpenSpec.ofChange rankApartWrong)

/-- 'hwkeep.TailBoth': WHATEVER THE INPUT: true; the input reads as it did. -/
def tailBothSpec : ChangeSpec := { name := "tailBoth", fn := fun _ => fun
  | [d1, d2] => { results := [.lit (.bool true)], args := [d1, d2] }
  | _ => none }
def tailBothRow : OpenClaim := { program := "ytcfiknifbebdjaa", sum := "0b77c030dd2b177207e08b87546b9c2fa715fa7a8902768f411c3dc6c7c13d1b", func := "heartwood/hwkeep.TailBoth", spec := "tailBoth", inPlace := ["math/bits.Add64", "math/bits.Sub64"], unfollowed := true, recurses := true, named := ["math/bits.divideError", "math/bits.overflowError"], apart := false }
def TailBothSaid : Prop := tailBothRow.holds Try.pinned (OpenSpec.ofChange tailBothSpec)

/-- ITS FALSE NEIGHBOUR: 'it returns false'. Refute it at one input. -/
def tailBothWrong : ChangeSpec := { name := "tailBoth", fn := fun _ => fun
  | [d1, d2] => { results := [.lit (.bool false)], args := [d1, d2] }
  | _ => none }
def TailBothWrongFalsely : Prop := tailBothRow.holds Try.pinned (OpenSpec.ofChange tailBothWrong)

/-- 'hwkeep.TailFalls': WHATEVER THE INPUT: true; the input reads as it did. -/
def tailFallsSpec : ChangeSpec := { name := "tailFalls", fn := fun _ => fun
  | [d1, d2, d3] => { results := [.lit (.bool true)], args := [d1, d2, d3] }
  | _ => none }
def tailFallsRow : OpenClaim := { program := "ytcfiknifbebdjaa", sum := "0b77c030dd2b177207e08b87546b9c2fa715fa7a8902768f411c3dc6c7c13d1b", func := "heartwood/hwkeep.TailFalls", spec := "tailFalls", unfollowed := true, recurses := true, apart := false }
def TailFallsSaid : Prop := tailFallsRow.holds Try.pinned (OpenSpec.ofChange tailFallsSpec)

/-- ITS FALSE NEIGHBOUR: 'it returns false'. Refute it at one input. -/
def tailFallsWrong : ChangeSpec := { name := "tailFalls", fn := fun _ => fun
  | [d1, d2, d3] => { results := [.lit (.bool false)], args := [d1, d2, d3] }
  | _ => none }
def TailFallsWrongFalsely : Prop := tailFallsRow.holds Try.pinned (OpenSpec.ofChange tailFallsWrong)

/-- 'hwkeep.ValuesOwn': WHATEVER THE INPUT: true; the input reads as it did. -/
def valuesOwnSpec : ChangeSpec := { name := "valuesOwn", fn := fun _ => fun
  | [d1, d2, d3] => { results := [.lit (.bool true)], args := [d1, d2, d3] }
  | _ => none }
def valuesOwnRow : OpenClaim := { program := "ytcfiknifbebdjaa", sum := "0b77c030dd2b177207e08b87546b9c2fa715fa7a8902768f411c3dc6c7c13d1b", func := "heartwood/hwkeep.ValuesOwn", spec := "valuesOwn", unfollowed := true, recurses := true, apart := false }
def ValuesOwnSaid : Prop := valuesOwnRow.holds Try.pinned (OpenSpec.ofChange valuesOwnSpec)

/-- ITS FALSE NEIGHBOUR: 'it returns false'. Refute it at one input. -/
def valuesOwnWrong : ChangeSpec := { name := "valuesOwn", fn := fun _ => fun
  | [d1, d2, d3] => { results := [.lit (.bool false)], args := [d1, d2, d3] }
  | _ => none }
def ValuesOwnWrongFalsely : Prop := valuesOwnRow.holds Try.pinned (OpenSpec.ofChange valuesOwnWrong)

/- THE SECOND FORM. 'bulk': how many values and letters a reading holds, each counted each time it is reached (what is shared counts as often as it is met; a slice's spare places count too). A statement '..UptoSaid' is the law's where the arguments, and the package variables that the reading takes, are together of bulk at most 1048576: NARROWER than '..Said'. Prove '..Said' where nothing that the law and all that it calls make is longer than what came in: it says more and counts as full. Else prove '..UptoSaid'. A law counts once. -/
mutual
def uptoBulk {H : Type} : DataW H → Nat
  | .lit (.string bytes) => bytes.length + 1
  | .lit _ => 1
  | .nil => 1
  | .ptr d => uptoBulk d + 1
  | .slice elems spare => uptoBulkAll elems + uptoBulkAll spare + 1
  | .agg parts => uptoBulkAll parts + 1
  | .iface _ d => uptoBulk d + 1
  | .map entries => uptoBulkEntries entries + 1
  | .held _ => 1
def uptoBulkAll {H : Type} : List (DataW H) → Nat
  | [] => 0
  | d :: r => uptoBulk d + uptoBulkAll r
def uptoBulkEntries {H : Type} : List (Lit × DataW H) → Nat
  | [] => 0
  | x :: r => uptoBulkEntry x + uptoBulkEntries r
def uptoBulkEntry {H : Type} : Lit × DataW H → Nat
  | (.string bytes, d) => bytes.length + uptoBulk d + 1
  | (_, d) => uptoBulk d + 1
 end
def uptoSmall : (H : Type) → List (DataW H) → Bool := fun _ ds => decide (uptoBulkAll ds ≤ 1048576)
def OpenSpec.upto (s : _root_.Go.ChangeSpec) : _root_.Go.OpenSpec := { _root_.Go.OpenSpec.ofChange s with cond := some uptoSmall }

/-- 'hwlaw.RankSays', WHERE WHAT IT READS IS OF BULK AT MOST 1048576: true; the input reads as it did. -/
def rankSaysUptoRow : OpenClaim := { program := "ytcfiknifbebdjaa", sum := "0b77c030dd2b177207e08b87546b9c2fa715fa7a8902768f411c3dc6c7c13d1b", func := "heartwood/hwlaw.RankSays", spec := "rankSays", unfollowed := true, recurses := true, apart := false, narrowed := true }
def RankSaysUptoSaid : Prop := rankSaysUptoRow.holds Try.pinned (OpenSpec.upto rankSaysSpec)

/-- 'hwlaw.RankPuts', WHERE WHAT IT READS IS OF BULK AT MOST 1048576: true; the input reads as it did. -/
def rankPutsUptoRow : OpenClaim := { program := "ytcfiknifbebdjaa", sum := "0b77c030dd2b177207e08b87546b9c2fa715fa7a8902768f411c3dc6c7c13d1b", func := "heartwood/hwlaw.RankPuts", spec := "rankPuts", unfollowed := true, recurses := true, apart := false, narrowed := true }
def RankPutsUptoSaid : Prop := rankPutsUptoRow.holds Try.pinned (OpenSpec.upto rankPutsSpec)

/-- 'hwlaw.TailSays', WHERE WHAT IT READS IS OF BULK AT MOST 1048576: true; the input reads as it did. -/
def tailSaysUptoRow : OpenClaim := { program := "ytcfiknifbebdjaa", sum := "0b77c030dd2b177207e08b87546b9c2fa715fa7a8902768f411c3dc6c7c13d1b", func := "heartwood/hwlaw.TailSays", spec := "tailSays", inPlace := ["math/bits.Add64", "math/bits.Sub64"], unfollowed := true, recurses := true, named := ["math/bits.divideError", "math/bits.overflowError"], apart := false, narrowed := true }
def TailSaysUptoSaid : Prop := tailSaysUptoRow.holds Try.pinned (OpenSpec.upto tailSaysSpec)

/-- 'hwkeep.RankSorts', WHERE WHAT IT READS IS OF BULK AT MOST 1048576: true; the input reads as it did. -/
def rankSortsUptoRow : OpenClaim := { program := "ytcfiknifbebdjaa", sum := "0b77c030dd2b177207e08b87546b9c2fa715fa7a8902768f411c3dc6c7c13d1b", func := "heartwood/hwkeep.RankSorts", spec := "rankSorts", unfollowed := true, recurses := true, apart := false, narrowed := true }
def RankSortsUptoSaid : Prop := rankSortsUptoRow.holds Try.pinned (OpenSpec.upto rankSortsSpec)

/-- 'hwkeep.RankPart', WHERE WHAT IT READS IS OF BULK AT MOST 1048576: true; the input reads as it did. -/
def rankPartUptoRow : OpenClaim := { program := "ytcfiknifbebdjaa", sum := "0b77c030dd2b177207e08b87546b9c2fa715fa7a8902768f411c3dc6c7c13d1b", func := "heartwood/hwkeep.RankPart", spec := "rankPart", unfollowed := true, recurses := true, apart := false, narrowed := true }
def RankPartUptoSaid : Prop := rankPartUptoRow.holds Try.pinned (OpenSpec.upto rankPartSpec)

/-- 'hwkeep.RankMedian', WHERE WHAT IT READS IS OF BULK AT MOST 1048576: true; the input reads as it did. -/
def rankMedianUptoRow : OpenClaim := { program := "ytcfiknifbebdjaa", sum := "0b77c030dd2b177207e08b87546b9c2fa715fa7a8902768f411c3dc6c7c13d1b", func := "heartwood/hwkeep.RankMedian", spec := "rankMedian", unfollowed := true, recurses := true, apart := false, narrowed := true }
def RankMedianUptoSaid : Prop := rankMedianUptoRow.holds Try.pinned (OpenSpec.upto rankMedianSpec)

/-- 'hwkeep.RankNear', WHERE WHAT IT READS IS OF BULK AT MOST 1048576: true; the input reads as it did. -/
def rankNearUptoRow : OpenClaim := { program := "ytcfiknifbebdjaa", sum := "0b77c030dd2b177207e08b87546b9c2fa715fa7a8902768f411c3dc6c7c13d1b", func := "heartwood/hwkeep.RankNear", spec := "rankNear", unfollowed := true, recurses := true, apart := false, narrowed := true }
def RankNearUptoSaid : Prop := rankNearUptoRow.holds Try.pinned (OpenSpec.upto rankNearSpec)

/-- 'hwkeep.RankPutCut', WHERE WHAT IT READS IS OF BULK AT MOST 1048576: true; the input reads as it did. -/
def rankPutCutUptoRow : OpenClaim := { program := "ytcfiknifbebdjaa", sum := "0b77c030dd2b177207e08b87546b9c2fa715fa7a8902768f411c3dc6c7c13d1b", func := "heartwood/hwkeep.RankPutCut", spec := "rankPutCut", unfollowed := true, recurses := true, apart := false, narrowed := true }
def RankPutCutUptoSaid : Prop := rankPutCutUptoRow.holds Try.pinned (OpenSpec.upto rankPutCutSpec)

/-- 'hwkeep.TailMarkov', WHERE WHAT IT READS IS OF BULK AT MOST 1048576: true; the input reads as it did. -/
def tailMarkovUptoRow : OpenClaim := { program := "ytcfiknifbebdjaa", sum := "0b77c030dd2b177207e08b87546b9c2fa715fa7a8902768f411c3dc6c7c13d1b", func := "heartwood/hwkeep.TailMarkov", spec := "tailMarkov", unfollowed := true, recurses := true, apart := false, narrowed := true }
def TailMarkovUptoSaid : Prop := tailMarkovUptoRow.holds Try.pinned (OpenSpec.upto tailMarkovSpec)

/-- 'hwkeep.TailChebyshev', WHERE WHAT IT READS IS OF BULK AT MOST 1048576: true; the input reads as it did. -/
def tailChebyshevUptoRow : OpenClaim := { program := "ytcfiknifbebdjaa", sum := "0b77c030dd2b177207e08b87546b9c2fa715fa7a8902768f411c3dc6c7c13d1b", func := "heartwood/hwkeep.TailChebyshev", spec := "tailChebyshev", unfollowed := true, recurses := true, apart := false, narrowed := true }
def TailChebyshevUptoSaid : Prop := tailChebyshevUptoRow.holds Try.pinned (OpenSpec.upto tailChebyshevSpec)

/-- 'hwkeep.TailCantelli', WHERE WHAT IT READS IS OF BULK AT MOST 1048576: true; the input reads as it did. -/
def tailCantelliUptoRow : OpenClaim := { program := "ytcfiknifbebdjaa", sum := "0b77c030dd2b177207e08b87546b9c2fa715fa7a8902768f411c3dc6c7c13d1b", func := "heartwood/hwkeep.TailCantelli", spec := "tailCantelli", inPlace := ["math/bits.Add64", "math/bits.Sub64"], unfollowed := true, recurses := true, named := ["math/bits.divideError", "math/bits.overflowError"], apart := false, narrowed := true }
def TailCantelliUptoSaid : Prop := tailCantelliUptoRow.holds Try.pinned (OpenSpec.upto tailCantelliSpec)

/-- 'hwkeep.RankEnds', WHERE WHAT IT READS IS OF BULK AT MOST 1048576: true; the input reads as it did. -/
def rankEndsUptoRow : OpenClaim := { program := "ytcfiknifbebdjaa", sum := "0b77c030dd2b177207e08b87546b9c2fa715fa7a8902768f411c3dc6c7c13d1b", func := "heartwood/hwkeep.RankEnds", spec := "rankEnds", unfollowed := true, recurses := true, apart := false, narrowed := true }
def RankEndsUptoSaid : Prop := rankEndsUptoRow.holds Try.pinned (OpenSpec.upto rankEndsSpec)

/-- 'hwkeep.RankFar', WHERE WHAT IT READS IS OF BULK AT MOST 1048576: true; the input reads as it did. -/
def rankFarUptoRow : OpenClaim := { program := "ytcfiknifbebdjaa", sum := "0b77c030dd2b177207e08b87546b9c2fa715fa7a8902768f411c3dc6c7c13d1b", func := "heartwood/hwkeep.RankFar", spec := "rankFar", unfollowed := true, recurses := true, apart := false, narrowed := true }
def RankFarUptoSaid : Prop := rankFarUptoRow.holds Try.pinned (OpenSpec.upto rankFarSpec)

/-- 'hwkeep.RankApart', WHERE WHAT IT READS IS OF BULK AT MOST 1048576: true; the input reads as it did. -/
def rankApartUptoRow : OpenClaim := { program := "ytcfiknifbebdjaa", sum := "0b77c030dd2b177207e08b87546b9c2fa715fa7a8902768f411c3dc6c7c13d1b", func := "heartwood/hwkeep.RankApart", spec := "rankApart", unfollowed := true, recurses := true, apart := false, narrowed := true }
def RankApartUptoSaid : Prop := rankApartUptoRow.holds Try.pinned (OpenSpec.upto rankApartSpec)

/-- 'hwkeep.TailBoth', WHERE WHAT IT READS IS OF BULK AT MOST 1048576: true; the input reads as it did. -/
def tailBothUptoRow : OpenClaim := { program := "ytcfiknifbebdjaa", sum := "0b77c030dd2b177207e08b87546b9c2fa715fa7a8902768f411c3dc6c7c13d1b", func := "heartwood/hwkeep.TailBoth", spec := "tailBoth", inPlace := ["math/bits.Add64", "math/bits.Sub64"], unfollowed := true, recurses := true, named := ["math/bits.divideError", "math/bits.overflowError"], apart := false, narrowed := true }
def TailBothUptoSaid : Prop := tailBothUptoRow.holds Try.pinned (OpenSpec.upto tailBothSpec)

/-- 'hwkeep.TailFalls', WHERE WHAT IT READS IS OF BULK AT MOST 1048576: true; the input reads as it did. -/
def tailFallsUptoRow : OpenClaim := { program := "ytcfiknifbebdjaa", sum := "0b77c030dd2b177207e08b87546b9c2fa715fa7a8902768f411c3dc6c7c13d1b", func := "heartwood/hwkeep.TailFalls", spec := "tailFalls", unfollowed := true, recurses := true, apart := false, narrowed := true }
def TailFallsUptoSaid : Prop := tailFallsUptoRow.holds Try.pinned (OpenSpec.upto tailFallsSpec)

/-- 'hwkeep.ValuesOwn', WHERE WHAT IT READS IS OF BULK AT MOST 1048576: true; the input reads as it did. -/
def valuesOwnUptoRow : OpenClaim := { program := "ytcfiknifbebdjaa", sum := "0b77c030dd2b177207e08b87546b9c2fa715fa7a8902768f411c3dc6c7c13d1b", func := "heartwood/hwkeep.ValuesOwn", spec := "valuesOwn", unfollowed := true, recurses := true, apart := false, narrowed := true }
def ValuesOwnUptoSaid : Prop := valuesOwnUptoRow.holds Try.pinned (OpenSpec.upto valuesOwnSpec)

end Rows
end Go.Proofs.Ytcfiknifbebdjaa
