/-
  No cell of these rows narrows 'for every input' (looked for: loops, veiled, ifaces, maps, wideKeys, modest, calm, conditions, laid).
  DERIVED. THE GIVEN ROWS OF THIS SEAT. 9 by the template 'for every input the law returns true; each argument reads behind the call as it read before'; 0 by the template 'total and deterministic' (their statements: YtaebchikbabdoaaTotals.lean).
  GIVEN WITH THE SEED: the statements are not yours to turn. If you find one false, say at which input.
  Laid BY PROGRAM, IN A SANDBOX (cutbox-rows.mjs): the forced cells as the released guide's own fill.sh prints them over the translation 10a32c9a1060c8e6… (all of the seat's roots in one cut). By AI agents, Wed Nov 11 2026. No macro, syntax, notation, axiom, sorry.
-/
import Derived.Test.YtaebchikbabdoaaChecked
import GoSem.Claim
import GoSem.ClaimJoined
import GoSem.ClaimMapViews
import Derived.JoinedTies
import Derived.KernelRfl
namespace Go.Proofs.Ytaebchikbabdoaa
/- THE CELL 'sum', in the pinned program and in every row, IS THE sha256 OF THE DUMP (.gsa) THAT YtaebchikbabdoaaProg.lean LOADS. Nothing in Lean hashes anything: it is a label: what it is worth is what the hold of that sum in a sandbox is worth. -/
noncomputable def Try.pinned : Pinned := { name := "ytaebchikbabdoaa", sum := "10a32c9a1060c8e6d6f62fc5198d0bb264bfdefa4b94974b94d4c4856995eb4a", checked := Try.checked }
namespace Rows
def none {H : Type} : Left H := { results := [], args := [] }

/-- 'hwlaw.WideAdds': WHATEVER THE INPUT: true; the input reads as it did. -/
def wideAddsSpec : ChangeSpec := { name := "wideAdds", fn := fun _ => fun
  | [d1, d2] => { results := [.lit (.bool true)], args := [d1, d2] }
  | _ => none }
def wideAddsRow : OpenClaim := { program := "ytaebchikbabdoaa", sum := "10a32c9a1060c8e6d6f62fc5198d0bb264bfdefa4b94974b94d4c4856995eb4a", func := "heartwood/hwlaw.WideAdds", spec := "wideAdds", inPlace := ["math/bits.Add64", "math/bits.Sub64"], apart := false }
def WideAddsSaid : Prop := wideAddsRow.holds Try.pinned (OpenSpec.ofChange wideAddsSpec)

/-- ITS FALSE NEIGHBOUR: 'it returns false'. Refute it at one input. -/
def wideAddsWrong : ChangeSpec := { name := "wideAdds", fn := fun _ => fun
  | [d1, d2] => { results := [.lit (.bool false)], args := [d1, d2] }
  | _ => none }
def WideAddsWrongFalsely : Prop := wideAddsRow.holds Try.pinned (OpenSpec.ofChange wideAddsWrong)

/-- 'hwlaw.WideMoves': WHATEVER THE INPUT: true; the input reads as it did. -/
def wideMovesSpec : ChangeSpec := { name := "wideMoves", fn := fun _ => fun
  | [d1, d2] => { results := [.lit (.bool true)], args := [d1, d2] }
  | _ => none }
def wideMovesRow : OpenClaim := { program := "ytaebchikbabdoaa", sum := "10a32c9a1060c8e6d6f62fc5198d0bb264bfdefa4b94974b94d4c4856995eb4a", func := "heartwood/hwlaw.WideMoves", spec := "wideMoves", apart := false }
def WideMovesSaid : Prop := wideMovesRow.holds Try.pinned (OpenSpec.ofChange wideMovesSpec)

/-- ITS FALSE NEIGHBOUR: 'it returns false'. Refute it at one input. -/
def wideMovesWrong : ChangeSpec := { name := "wideMoves", fn := fun _ => fun
  | [d1, d2] => { results := [.lit (.bool false)], args := [d1, d2] }
  | _ => none }
def WideMovesWrongFalsely : Prop := wideMovesRow.holds Try.pinned (OpenSpec.ofChange wideMovesWrong)

/-- 'hwlaw.ProdSays': WHATEVER THE INPUT: true; the input reads as it did. -/
def prodSaysSpec : ChangeSpec := { name := "prodSays", fn := fun _ => fun
  | [d1, d2] => { results := [.lit (.bool true)], args := [d1, d2] }
  | _ => none }
def prodSaysRow : OpenClaim := { program := "ytaebchikbabdoaa", sum := "10a32c9a1060c8e6d6f62fc5198d0bb264bfdefa4b94974b94d4c4856995eb4a", func := "heartwood/hwlaw.ProdSays", spec := "prodSays", inPlace := ["math/bits.Add64", "math/bits.Sub64"], named := ["math/bits.divideError", "math/bits.overflowError"], apart := false }
def ProdSaysSaid : Prop := prodSaysRow.holds Try.pinned (OpenSpec.ofChange prodSaysSpec)

/-- ITS FALSE NEIGHBOUR: 'it returns false'. Refute it at one input. -/
def prodSaysWrong : ChangeSpec := { name := "prodSays", fn := fun _ => fun
  | [d1, d2] => { results := [.lit (.bool false)], args := [d1, d2] }
  | _ => none }
def ProdSaysWrongFalsely : Prop := prodSaysRow.holds Try.pinned (OpenSpec.ofChange prodSaysWrong)

/-- 'hwlaw.RootSays': WHATEVER THE INPUT: true; the input reads as it did. -/
def rootSaysSpec : ChangeSpec := { name := "rootSays", fn := fun _ => fun
  | [d1, d2, d3] => { results := [.lit (.bool true)], args := [d1, d2, d3] }
  | _ => none }
def rootSaysRow : OpenClaim := { program := "ytaebchikbabdoaa", sum := "10a32c9a1060c8e6d6f62fc5198d0bb264bfdefa4b94974b94d4c4856995eb4a", func := "heartwood/hwlaw.RootSays", spec := "rootSays", inPlace := ["math/bits.Add64"], apart := false }
def RootSaysSaid : Prop := rootSaysRow.holds Try.pinned (OpenSpec.ofChange rootSaysSpec)

/-- ITS FALSE NEIGHBOUR: 'it returns false'. Refute it at one input. -/
def rootSaysWrong : ChangeSpec := { name := "rootSays", fn := fun _ => fun
  | [d1, d2, d3] => { results := [.lit (.bool false)], args := [d1, d2, d3] }
  | _ => none }
def RootSaysWrongFalsely : Prop := rootSaysRow.holds Try.pinned (OpenSpec.ofChange rootSaysWrong)

/-- 'hwkeep.ProdRing': WHATEVER THE INPUT: true; the input reads as it did. -/
def prodRingSpec : ChangeSpec := { name := "prodRing", fn := fun _ => fun
  | [d1, d2, d3] => { results := [.lit (.bool true)], args := [d1, d2, d3] }
  | _ => none }
def prodRingRow : OpenClaim := { program := "ytaebchikbabdoaa", sum := "10a32c9a1060c8e6d6f62fc5198d0bb264bfdefa4b94974b94d4c4856995eb4a", func := "heartwood/hwkeep.ProdRing", spec := "prodRing", inPlace := ["math/bits.Add64"], apart := false }
def ProdRingSaid : Prop := prodRingRow.holds Try.pinned (OpenSpec.ofChange prodRingSpec)

/-- ITS FALSE NEIGHBOUR: 'it returns false'. Refute it at one input. -/
def prodRingWrong : ChangeSpec := { name := "prodRing", fn := fun _ => fun
  | [d1, d2, d3] => { results := [.lit (.bool false)], args := [d1, d2, d3] }
  | _ => none }
def ProdRingWrongFalsely : Prop := prodRingRow.holds Try.pinned (OpenSpec.ofChange prodRingWrong)

/-- 'hwkeep.PowerAdds': WHATEVER THE INPUT: true; the input reads as it did. -/
def powerAddsSpec : ChangeSpec := { name := "powerAdds", fn := fun _ => fun
  | [d1, d2, d3, d4] => { results := [.lit (.bool true)], args := [d1, d2, d3, d4] }
  | _ => none }
def powerAddsRow : OpenClaim := { program := "ytaebchikbabdoaa", sum := "10a32c9a1060c8e6d6f62fc5198d0bb264bfdefa4b94974b94d4c4856995eb4a", func := "heartwood/hwkeep.PowerAdds", spec := "powerAdds", inPlace := ["math/bits.Add64"], apart := false }
def PowerAddsSaid : Prop := powerAddsRow.holds Try.pinned (OpenSpec.ofChange powerAddsSpec)

/-- ITS FALSE NEIGHBOUR: 'it returns false'. Refute it at one input. -/
def powerAddsWrong : ChangeSpec := { name := "powerAdds", fn := fun _ => fun
  | [d1, d2, d3, d4] => { results := [.lit (.bool false)], args := [d1, d2, d3, d4] }
  | _ => none }
def PowerAddsWrongFalsely : Prop := powerAddsRow.holds Try.pinned (OpenSpec.ofChange powerAddsWrong)

/-- 'hwkeep.DecBack': WHATEVER THE INPUT: true; the input reads as it did. -/
def decBackSpec : ChangeSpec := { name := "decBack", fn := fun _ => fun
  | [d1, d2, d3] => { results := [.lit (.bool true)], args := [d1, d2, d3] }
  | _ => none }
def decBackRow : OpenClaim := { program := "ytaebchikbabdoaa", sum := "10a32c9a1060c8e6d6f62fc5198d0bb264bfdefa4b94974b94d4c4856995eb4a", func := "heartwood/hwkeep.DecBack", spec := "decBack", inPlace := ["math/bits.Add64", "math/bits.Sub64"], named := ["math/bits.divideError", "math/bits.overflowError"], apart := false }
def DecBackSaid : Prop := decBackRow.holds Try.pinned (OpenSpec.ofChange decBackSpec)

/-- ITS FALSE NEIGHBOUR: 'it returns false'. Refute it at one input. -/
def decBackWrong : ChangeSpec := { name := "decBack", fn := fun _ => fun
  | [d1, d2, d3] => { results := [.lit (.bool false)], args := [d1, d2, d3] }
  | _ => none }
def DecBackWrongFalsely : Prop := decBackRow.holds Try.pinned (OpenSpec.ofChange decBackWrong)

/-- 'hwkeep.DecLong': WHATEVER THE INPUT: true; the input reads as it did. -/
def decLongSpec : ChangeSpec := { name := "decLong", fn := fun _ => fun
  | [d] => { results := [.lit (.bool true)], args := [d] }
  | _ => none }
def decLongRow : OpenClaim := { program := "ytaebchikbabdoaa", sum := "10a32c9a1060c8e6d6f62fc5198d0bb264bfdefa4b94974b94d4c4856995eb4a", func := "heartwood/hwkeep.DecLong", spec := "decLong", inPlace := ["math/bits.Add64", "math/bits.Sub64"], named := ["math/bits.divideError", "math/bits.overflowError"], apart := false }
def DecLongSaid : Prop := decLongRow.holds Try.pinned (OpenSpec.ofChange decLongSpec)

/-- ITS FALSE NEIGHBOUR: 'it returns false'. Refute it at one input. -/
def decLongWrong : ChangeSpec := { name := "decLong", fn := fun _ => fun
  | [d] => { results := [.lit (.bool false)], args := [d] }
  | _ => none }
def DecLongWrongFalsely : Prop := decLongRow.holds Try.pinned (OpenSpec.ofChange decLongWrong)

/-- 'hwtop.TopRoot': WHATEVER THE INPUT: true; the input reads as it did. -/
def topRootSpec : ChangeSpec := { name := "topRoot", fn := fun _ => fun
  | [d] => { results := [.lit (.bool true)], args := [d] }
  | _ => none }
def topRootRow : OpenClaim := { program := "ytaebchikbabdoaa", sum := "10a32c9a1060c8e6d6f62fc5198d0bb264bfdefa4b94974b94d4c4856995eb4a", func := "heartwood/hwtop.TopRoot", spec := "topRoot", inPlace := ["math/bits.Add64", "math/bits.Sub64"], unfollowed := true, recurses := true, named := ["math/bits.divideError", "math/bits.overflowError"], apart := false }
def TopRootSaid : Prop := topRootRow.holds Try.pinned (OpenSpec.ofChange topRootSpec)

/-- ITS FALSE NEIGHBOUR: 'it returns false'. Refute it at one input. -/
def topRootWrong : ChangeSpec := { name := "topRoot", fn := fun _ => fun
  | [d] => { results := [.lit (.bool false)], args := [d] }
  | _ => none }
def TopRootWrongFalsely : Prop := topRootRow.holds Try.pinned (OpenSpec.ofChange topRootWrong)

/- THE SECOND FORM. 'bulk': how many values and letters a reading holds, each counted each time it is reached (what is shared counts as often as it is met; a slice's spare places count too). A statement '..UptoSaid' is the law's where the arguments, and the package variables that the reading takes, are together of bulk at most 1048576: NARROWER than '..Said'. Prove '..Said' where nothing that the law and all that it calls make is longer than what came in: it says more and counts as full. Else prove '..UptoSaid'. A law counts once. -/
mutual
def uptoBulk {H : Type} : DataW H → Nat
  | .lit (.string bytes) => bytes.length + 1
  | .lit _ => 1
  | .nil => 1
  | .ptr d => uptoBulk d + 1
  | .slice elems spare => uptoBulkAll elems + uptoBulkAll spare + 1
  | .agg parts => uptoBulkAll parts + 1
  | .iface _ d => uptoBulk d + 1
  | .map entries => uptoBulkEntries entries + 1
  | .held _ => 1
def uptoBulkAll {H : Type} : List (DataW H) → Nat
  | [] => 0
  | d :: r => uptoBulk d + uptoBulkAll r
def uptoBulkEntries {H : Type} : List (Lit × DataW H) → Nat
  | [] => 0
  | x :: r => uptoBulkEntry x + uptoBulkEntries r
def uptoBulkEntry {H : Type} : Lit × DataW H → Nat
  | (.string bytes, d) => bytes.length + uptoBulk d + 1
  | (_, d) => uptoBulk d + 1
 end
def uptoSmall : (H : Type) → List (DataW H) → Bool := fun _ ds => decide (uptoBulkAll ds ≤ 1048576)
def OpenSpec.upto (s : _root_.Go.ChangeSpec) : _root_.Go.OpenSpec := { _root_.Go.OpenSpec.ofChange s with cond := some uptoSmall }

/-- 'hwlaw.WideAdds', WHERE WHAT IT READS IS OF BULK AT MOST 1048576: true; the input reads as it did. -/
def wideAddsUptoRow : OpenClaim := { program := "ytaebchikbabdoaa", sum := "10a32c9a1060c8e6d6f62fc5198d0bb264bfdefa4b94974b94d4c4856995eb4a", func := "heartwood/hwlaw.WideAdds", spec := "wideAdds", inPlace := ["math/bits.Add64", "math/bits.Sub64"], apart := false, narrowed := true }
def WideAddsUptoSaid : Prop := wideAddsUptoRow.holds Try.pinned (OpenSpec.upto wideAddsSpec)

/-- 'hwlaw.WideMoves', WHERE WHAT IT READS IS OF BULK AT MOST 1048576: true; the input reads as it did. -/
def wideMovesUptoRow : OpenClaim := { program := "ytaebchikbabdoaa", sum := "10a32c9a1060c8e6d6f62fc5198d0bb264bfdefa4b94974b94d4c4856995eb4a", func := "heartwood/hwlaw.WideMoves", spec := "wideMoves", apart := false, narrowed := true }
def WideMovesUptoSaid : Prop := wideMovesUptoRow.holds Try.pinned (OpenSpec.upto wideMovesSpec)

/-- 'hwlaw.ProdSays', WHERE WHAT IT READS IS OF BULK AT MOST 1048576: true; the input reads as it did. -/
def prodSaysUptoRow : OpenClaim := { program := "ytaebchikbabdoaa", sum := "10a32c9a1060c8e6d6f62fc5198d0bb264bfdefa4b94974b94d4c4856995eb4a", func := "heartwood/hwlaw.ProdSays", spec := "prodSays", inPlace := ["math/bits.Add64", "math/bits.Sub64"], named := ["math/bits.divideError", "math/bits.overflowError"], apart := false, narrowed := true }
def ProdSaysUptoSaid : Prop := prodSaysUptoRow.holds Try.pinned (OpenSpec.upto prodSaysSpec)

/-- 'hwlaw.RootSays', WHERE WHAT IT READS IS OF BULK AT MOST 1048576: true; the input reads as it did. -/
def rootSaysUptoRow : OpenClaim := { program := "ytaebchikbabdoaa", sum := "10a32c9a1060c8e6d6f62fc5198d0bb264bfdefa4b94974b94d4c4856995eb4a", func := "heartwood/hwlaw.RootSays", spec := "rootSays", inPlace := ["math/bits.Add64"], apart := false, narrowed := true }
def RootSaysUptoSaid : Prop := rootSaysUptoRow.holds Try.pinned (OpenSpec.upto rootSaysSpec)

/-- 'hwkeep.ProdRing', WHERE WHAT IT READS IS OF BULK AT MOST 1048576: true; the input reads as it did. -/
def prodRingUptoRow : OpenClaim := { program := "ytaebchikbabdoaa", sum := "10a32c9a1060c8e6d6f62fc5198d0bb264bfdefa4b94974b94d4c4856995eb4a", func := "heartwood/hwkeep.ProdRing", spec := "prodRing", inPlace := ["math/bits.Add64"], apart := false, narrowed := true }
def ProdRingUptoSaid : Prop := prodRingUptoRow.holds Try.pinned (OpenSpec.upto prodRingSpec)

/-- 'hwkeep.PowerAdds', WHERE WHAT IT READS IS OF BULK AT MOST 1048576: true; the input reads as it did. -/
def powerAddsUptoRow : OpenClaim := { program := "ytaebchikbabdoaa", sum := "10a32c9a1060c8e6d6f62fc5198d0bb264bfdefa4b94974b94d4c4856995eb4a", func := "heartwood/hwkeep.PowerAdds", spec := "powerAdds", inPlace := ["math/bits.Add64"], apart := false, narrowed := true }
def PowerAddsUptoSaid : Prop := powerAddsUptoRow.holds Try.pinned (OpenSpec.upto powerAddsSpec)

/-- 'hwkeep.DecBack', WHERE WHAT IT READS IS OF BULK AT MOST 1048576: true; the input reads as it did. -/
def decBackUptoRow : OpenClaim := { program := "ytaebchikbabdoaa", sum := "10a32c9a1060c8e6d6f62fc5198d0bb264bfdefa4b94974b94d4c4856995eb4a", func := "heartwood/hwkeep.DecBack", spec := "decBack", inPlace := ["math/bits.Add64", "math/bits.Sub64"], named := ["math/bits.divideError", "math/bits.overflowError"], apart := false, narrowed := true }
def DecBackUptoSaid : Prop := decBackUptoRow.holds Try.pinned (OpenSpec.upto decBackSpec)

/-- 'hwkeep.DecLong', WHERE WHAT IT READS IS OF BULK AT MOST 1048576: true; the input reads as it did. -/
def decLongUptoRow : OpenClaim := { program := "ytaebchikbabdoaa", sum := "10a32c9a1060c8e6d6f62fc5198d0bb264bfdefa4b94974b94d4c4856995eb4a", func := "heartwood/hwkeep.DecLong", spec := "decLong", inPlace := ["math/bits.Add64", "math/bits.Sub64"], named := ["math/bits.divideError", "math/bits.overflowError"], apart := false, narrowed := true }
def DecLongUptoSaid : Prop := decLongUptoRow.holds Try.pinned (OpenSpec.upto decLongSpec)

/-- 'hwtop.TopRoot', WHERE WHAT IT READS IS OF BULK AT MOST 1048576: true; the input reads as it did. -/
def topRootUptoRow : OpenClaim := { program := "ytaebchikbabdoaa", sum := "10a32c9a1060c8e6d6f62fc5198d0bb264bfdefa4b94974b94d4c4856995eb4a", func := "heartwood/hwtop.TopRoot", spec := "topRoot", inPlace := ["math/bits.Add64", "math/bits.Sub64"], unfollowed := true, recurses := true, named := ["math/bits.divideError", "math/bits.overflowError"], apart := false, narrowed := true }
def TopRootUptoSaid : Prop := topRootUptoRow.holds Try.pinned (OpenSpec.upto topRootSpec)

end Rows
end Go.Proofs.Ytaebchikbabdoaa
