/-
  No cell of these rows narrows 'for every input' (looked for: loops, veiled, ifaces, maps, wideKeys, modest, calm, conditions, laid).
  DERIVED. THE GIVEN ROWS OF THIS SEAT. 9 by the template 'for every input the law returns true; each argument reads behind the call as it read before'; 0 by the template 'total and deterministic' (their statements: YtjmkmcjpppdglaaTotals.lean).
  GIVEN WITH THE SEED: the statements are not yours to turn. If you find one false, say at which input.
  Laid BY PROGRAM, IN A SANDBOX (cutbox-rows.mjs): the forced cells as the released guide's own fill.sh prints them over the translation db3f37ee512faba5… (all of the seat's roots in one cut). By AI agents, Wed Nov 11 2026. No macro, syntax, notation, axiom, sorry.
-/
import Derived.Test.YtjmkmcjpppdglaaChecked
import GoSem.Claim
import GoSem.ClaimJoined
import GoSem.ClaimMapViews
import Derived.JoinedTies
import Derived.KernelRfl
namespace Go.Proofs.Ytjmkmcjpppdglaa
/- THE CELL 'sum', in the pinned program and in every row, IS THE sha256 OF THE DUMP (.gsa) THAT YtjmkmcjpppdglaaProg.lean LOADS. Nothing in Lean hashes anything: it is a label: what it is worth is what the hold of that sum in a sandbox is worth. -/
noncomputable def Try.pinned : Pinned := { name := "ytjmkmcjpppdglaa", sum := "db3f37ee512faba5d2e38d3825f6eec04373c8d955f9c497842ea3128953f7f6", checked := Try.checked }
namespace Rows
def none {H : Type} : Left H := { results := [], args := [] }

/-- 'hwlaw.RootSays': WHATEVER THE INPUT: true; the input reads as it did. -/
def rootSaysSpec : ChangeSpec := { name := "rootSays", fn := fun _ => fun
  | [d1, d2, d3] => { results := [.lit (.bool true)], args := [d1, d2, d3] }
  | _ => none }
def rootSaysRow : OpenClaim := { program := "ytjmkmcjpppdglaa", sum := "db3f37ee512faba5d2e38d3825f6eec04373c8d955f9c497842ea3128953f7f6", func := "heartwood/hwlaw.RootSays", spec := "rootSays", inPlace := ["math/bits.Add64"], apart := false }
def RootSaysSaid : Prop := rootSaysRow.holds Try.pinned (OpenSpec.ofChange rootSaysSpec)

/-- ITS FALSE NEIGHBOUR: 'it returns false'. Refute it at one input. -/
def rootSaysWrong : ChangeSpec := { name := "rootSays", fn := fun _ => fun
  | [d1, d2, d3] => { results := [.lit (.bool false)], args := [d1, d2, d3] }
  | _ => none }
def RootSaysWrongFalsely : Prop := rootSaysRow.holds Try.pinned (OpenSpec.ofChange rootSaysWrong)

/-- 'hwkeep.RootIs': WHATEVER THE INPUT: true; the input reads as it did. -/
def rootIsSpec : ChangeSpec := { name := "rootIs", fn := fun _ => fun
  | [d1, d2, d3] => { results := [.lit (.bool true)], args := [d1, d2, d3] }
  | _ => none }
def rootIsRow : OpenClaim := { program := "ytjmkmcjpppdglaa", sum := "db3f37ee512faba5d2e38d3825f6eec04373c8d955f9c497842ea3128953f7f6", func := "heartwood/hwkeep.RootIs", spec := "rootIs", apart := false }
def RootIsSaid : Prop := rootIsRow.holds Try.pinned (OpenSpec.ofChange rootIsSpec)

/-- ITS FALSE NEIGHBOUR: 'it returns false'. Refute it at one input. -/
def rootIsWrong : ChangeSpec := { name := "rootIs", fn := fun _ => fun
  | [d1, d2, d3] => { results := [.lit (.bool false)], args := [d1, d2, d3] }
  | _ => none }
def RootIsWrongFalsely : Prop := rootIsRow.holds Try.pinned (OpenSpec.ofChange rootIsWrong)

/-- 'hwkeep.PowerAdds': WHATEVER THE INPUT: true; the input reads as it did. -/
def powerAddsSpec : ChangeSpec := { name := "powerAdds", fn := fun _ => fun
  | [d1, d2, d3, d4] => { results := [.lit (.bool true)], args := [d1, d2, d3, d4] }
  | _ => none }
def powerAddsRow : OpenClaim := { program := "ytjmkmcjpppdglaa", sum := "db3f37ee512faba5d2e38d3825f6eec04373c8d955f9c497842ea3128953f7f6", func := "heartwood/hwkeep.PowerAdds", spec := "powerAdds", inPlace := ["math/bits.Add64"], apart := false }
def PowerAddsSaid : Prop := powerAddsRow.holds Try.pinned (OpenSpec.ofChange powerAddsSpec)

/-- ITS FALSE NEIGHBOUR: 'it returns false'. Refute it at one input. -/
def powerAddsWrong : ChangeSpec := { name := "powerAdds", fn := fun _ => fun
  | [d1, d2, d3, d4] => { results := [.lit (.bool false)], args := [d1, d2, d3, d4] }
  | _ => none }
def PowerAddsWrongFalsely : Prop := powerAddsRow.holds Try.pinned (OpenSpec.ofChange powerAddsWrong)

/-- 'hwkeep.HalvingsAdd': WHATEVER THE INPUT: true; the input reads as it did. -/
def halvingsAddSpec : ChangeSpec := { name := "halvingsAdd", fn := fun _ => fun
  | [d1, d2, d3] => { results := [.lit (.bool true)], args := [d1, d2, d3] }
  | _ => none }
def halvingsAddRow : OpenClaim := { program := "ytjmkmcjpppdglaa", sum := "db3f37ee512faba5d2e38d3825f6eec04373c8d955f9c497842ea3128953f7f6", func := "heartwood/hwkeep.HalvingsAdd", spec := "halvingsAdd", apart := false }
def HalvingsAddSaid : Prop := halvingsAddRow.holds Try.pinned (OpenSpec.ofChange halvingsAddSpec)

/-- ITS FALSE NEIGHBOUR: 'it returns false'. Refute it at one input. -/
def halvingsAddWrong : ChangeSpec := { name := "halvingsAdd", fn := fun _ => fun
  | [d1, d2, d3] => { results := [.lit (.bool false)], args := [d1, d2, d3] }
  | _ => none }
def HalvingsAddWrongFalsely : Prop := halvingsAddRow.holds Try.pinned (OpenSpec.ofChange halvingsAddWrong)

/-- 'hwkeep.DecBack': WHATEVER THE INPUT: true; the input reads as it did. -/
def decBackSpec : ChangeSpec := { name := "decBack", fn := fun _ => fun
  | [d1, d2, d3] => { results := [.lit (.bool true)], args := [d1, d2, d3] }
  | _ => none }
def decBackRow : OpenClaim := { program := "ytjmkmcjpppdglaa", sum := "db3f37ee512faba5d2e38d3825f6eec04373c8d955f9c497842ea3128953f7f6", func := "heartwood/hwkeep.DecBack", spec := "decBack", inPlace := ["math/bits.Add64", "math/bits.Sub64"], named := ["math/bits.divideError", "math/bits.overflowError"], apart := false }
def DecBackSaid : Prop := decBackRow.holds Try.pinned (OpenSpec.ofChange decBackSpec)

/-- ITS FALSE NEIGHBOUR: 'it returns false'. Refute it at one input. -/
def decBackWrong : ChangeSpec := { name := "decBack", fn := fun _ => fun
  | [d1, d2, d3] => { results := [.lit (.bool false)], args := [d1, d2, d3] }
  | _ => none }
def DecBackWrongFalsely : Prop := decBackRow.holds Try.pinned (OpenSpec.ofChange decBackWrong)

/-- 'hwkeep.RootParts': WHATEVER THE INPUT: true; the input reads as it did. -/
def rootPartsSpec : ChangeSpec := { name := "rootParts", fn := fun _ => fun
  | [d1, d2] => { results := [.lit (.bool true)], args := [d1, d2] }
  | _ => none }
def rootPartsRow : OpenClaim := { program := "ytjmkmcjpppdglaa", sum := "db3f37ee512faba5d2e38d3825f6eec04373c8d955f9c497842ea3128953f7f6", func := "heartwood/hwkeep.RootParts", spec := "rootParts", inPlace := ["math/bits.Add64"], apart := false }
def RootPartsSaid : Prop := rootPartsRow.holds Try.pinned (OpenSpec.ofChange rootPartsSpec)

/-- ITS FALSE NEIGHBOUR: 'it returns false'. Refute it at one input. -/
def rootPartsWrong : ChangeSpec := { name := "rootParts", fn := fun _ => fun
  | [d1, d2] => { results := [.lit (.bool false)], args := [d1, d2] }
  | _ => none }
def RootPartsWrongFalsely : Prop := rootPartsRow.holds Try.pinned (OpenSpec.ofChange rootPartsWrong)

/-- 'hwkeep.PowerGrows': WHATEVER THE INPUT: true; the input reads as it did. -/
def powerGrowsSpec : ChangeSpec := { name := "powerGrows", fn := fun _ => fun
  | [d1, d2, d3] => { results := [.lit (.bool true)], args := [d1, d2, d3] }
  | _ => none }
def powerGrowsRow : OpenClaim := { program := "ytjmkmcjpppdglaa", sum := "db3f37ee512faba5d2e38d3825f6eec04373c8d955f9c497842ea3128953f7f6", func := "heartwood/hwkeep.PowerGrows", spec := "powerGrows", inPlace := ["math/bits.Add64"], apart := false }
def PowerGrowsSaid : Prop := powerGrowsRow.holds Try.pinned (OpenSpec.ofChange powerGrowsSpec)

/-- ITS FALSE NEIGHBOUR: 'it returns false'. Refute it at one input. -/
def powerGrowsWrong : ChangeSpec := { name := "powerGrows", fn := fun _ => fun
  | [d1, d2, d3] => { results := [.lit (.bool false)], args := [d1, d2, d3] }
  | _ => none }
def PowerGrowsWrongFalsely : Prop := powerGrowsRow.holds Try.pinned (OpenSpec.ofChange powerGrowsWrong)

/-- 'hwkeep.DecLong': WHATEVER THE INPUT: true; the input reads as it did. -/
def decLongSpec : ChangeSpec := { name := "decLong", fn := fun _ => fun
  | [d] => { results := [.lit (.bool true)], args := [d] }
  | _ => none }
def decLongRow : OpenClaim := { program := "ytjmkmcjpppdglaa", sum := "db3f37ee512faba5d2e38d3825f6eec04373c8d955f9c497842ea3128953f7f6", func := "heartwood/hwkeep.DecLong", spec := "decLong", inPlace := ["math/bits.Add64", "math/bits.Sub64"], named := ["math/bits.divideError", "math/bits.overflowError"], apart := false }
def DecLongSaid : Prop := decLongRow.holds Try.pinned (OpenSpec.ofChange decLongSpec)

/-- ITS FALSE NEIGHBOUR: 'it returns false'. Refute it at one input. -/
def decLongWrong : ChangeSpec := { name := "decLong", fn := fun _ => fun
  | [d] => { results := [.lit (.bool false)], args := [d] }
  | _ => none }
def DecLongWrongFalsely : Prop := decLongRow.holds Try.pinned (OpenSpec.ofChange decLongWrong)

/-- 'hwtop.TopRoot': WHATEVER THE INPUT: true; the input reads as it did. -/
def topRootSpec : ChangeSpec := { name := "topRoot", fn := fun _ => fun
  | [d] => { results := [.lit (.bool true)], args := [d] }
  | _ => none }
def topRootRow : OpenClaim := { program := "ytjmkmcjpppdglaa", sum := "db3f37ee512faba5d2e38d3825f6eec04373c8d955f9c497842ea3128953f7f6", func := "heartwood/hwtop.TopRoot", spec := "topRoot", inPlace := ["math/bits.Add64", "math/bits.Sub64"], named := ["math/bits.divideError", "math/bits.overflowError"], apart := false }
def TopRootSaid : Prop := topRootRow.holds Try.pinned (OpenSpec.ofChange topRootSpec)

/-- ITS FALSE NEIGHBOUR: 'it returns false'. Refute it at one input. -/
def topRootWrong : ChangeSpec := { name := "topRoot", fn := fun _ => fun
  | [d] => { results := [.lit (.bool false)], args := [d] }
  | _ => none }
def TopRootWrongFalsely : Prop := topRootRow.holds Try.pinned (OpenSpec.ofChange topRootWrong)

/- THE SECOND FORM. 'bulk': how many values and letters a reading holds, each counted each time it is reached (what is shared counts as often as it is met; a slice's spare places count too). A statement '..UptoSaid' is the law's where the arguments, and the package variables that the reading takes, are together of bulk at most 1048576: NARROWER than '..Said'. Prove '..Said' where nothing that the law and all that it calls make is longer than what came in: it says more and counts as full. Else prove '..UptoSaid'. A law counts once. -/
mutual
def uptoBulk {H : Type} : DataW H → Nat
  | .lit (.string bytes) => bytes.length + 1
  | .lit _ => 1
  | .nil => 1
  | .ptr d => uptoBulk d + 1
  | .slice elems spare => uptoBulkAll elems + uptoBulkAll spare + 1
  | .agg parts => uptoBulkAll parts + 1
  | .iface _ d => uptoBulk d + 1
  | .map entries => uptoBulkEntries entries + 1
  | .held _ => 1
def uptoBulkAll {H : Type} : List (DataW H) → Nat
  | [] => 0
  | d :: r => uptoBulk d + uptoBulkAll r
def uptoBulkEntries {H : Type} : List (Lit × DataW H) → Nat
  | [] => 0
  | x :: r => uptoBulkEntry x + uptoBulkEntries r
def uptoBulkEntry {H : Type} : Lit × DataW H → Nat
  | (.string bytes, d) => bytes.length + uptoBulk d + 1
  | (_, d) => uptoBulk d + 1
 end
def uptoSmall : (H : Type) → List (DataW H) → Bool := fun _ ds => decide (uptoBulkAll ds ≤ 1048576)
def OpenSpec.upto (s : _root_.Go.ChangeSpec) : _root_.Go.OpenSpec := { _root_.Go.OpenSpec.ofChange s with cond := some uptoSmall }

/-- 'hwlaw.RootSays', WHERE WHAT IT READS IS OF BULK AT MOST 1048576: true; the input reads as it did. -/
def rootSaysUptoRow : OpenClaim := { program := "ytjmkmcjpppdglaa", sum := "db3f37ee512faba5d2e38d3825f6eec04373c8d955f9c497842ea3128953f7f6", func := "heartwood/hwlaw.RootSays", spec := "rootSays", inPlace := ["math/bits.Add64"], apart := false, narrowed := true }
def RootSaysUptoSaid : Prop := rootSaysUptoRow.holds Try.pinned (OpenSpec.upto rootSaysSpec)

/-- 'hwkeep.RootIs', WHERE WHAT IT READS IS OF BULK AT MOST 1048576: true; the input reads as it did. -/
def rootIsUptoRow : OpenClaim := { program := "ytjmkmcjpppdglaa", sum := "db3f37ee512faba5d2e38d3825f6eec04373c8d955f9c497842ea3128953f7f6", func := "heartwood/hwkeep.RootIs", spec := "rootIs", apart := false, narrowed := true }
def RootIsUptoSaid : Prop := rootIsUptoRow.holds Try.pinned (OpenSpec.upto rootIsSpec)

/-- 'hwkeep.PowerAdds', WHERE WHAT IT READS IS OF BULK AT MOST 1048576: true; the input reads as it did. -/
def powerAddsUptoRow : OpenClaim := { program := "ytjmkmcjpppdglaa", sum := "db3f37ee512faba5d2e38d3825f6eec04373c8d955f9c497842ea3128953f7f6", func := "heartwood/hwkeep.PowerAdds", spec := "powerAdds", inPlace := ["math/bits.Add64"], apart := false, narrowed := true }
def PowerAddsUptoSaid : Prop := powerAddsUptoRow.holds Try.pinned (OpenSpec.upto powerAddsSpec)

/-- 'hwkeep.HalvingsAdd', WHERE WHAT IT READS IS OF BULK AT MOST 1048576: true; the input reads as it did. -/
def halvingsAddUptoRow : OpenClaim := { program := "ytjmkmcjpppdglaa", sum := "db3f37ee512faba5d2e38d3825f6eec04373c8d955f9c497842ea3128953f7f6", func := "heartwood/hwkeep.HalvingsAdd", spec := "halvingsAdd", apart := false, narrowed := true }
def HalvingsAddUptoSaid : Prop := halvingsAddUptoRow.holds Try.pinned (OpenSpec.upto halvingsAddSpec)

/-- 'hwkeep.DecBack', WHERE WHAT IT READS IS OF BULK AT MOST 1048576: true; the input reads as it did. -/
def decBackUptoRow : OpenClaim := { program := "ytjmkmcjpppdglaa", sum := "db3f37ee512faba5d2e38d3825f6eec04373c8d955f9c497842ea3128953f7f6", func := "heartwood/hwkeep.DecBack", spec := "decBack", inPlace := ["math/bits.Add64", "math/bits.Sub64"], named := ["math/bits.divideError", "math/bits.overflowError"], apart := false, narrowed := true }
def DecBackUptoSaid : Prop := decBackUptoRow.holds Try.pinned (OpenSpec.upto decBackSpec)

/-- 'hwkeep.RootParts', WHERE WHAT IT READS IS OF BULK AT MOST 1048576: true; the input reads as it did. -/
def rootPartsUptoRow : OpenClaim := { program := "ytjmkmcjpppdglaa", sum := "db3f37ee512faba5d2e38d3825f6eec04373c8d955f9c497842ea3128953f7f6", func := "heartwood/hwkeep.RootParts", spec := "rootParts", inPlace := ["math/bits.Add64"], apart := false, narrowed := true }
def RootPartsUptoSaid : Prop := rootPartsUptoRow.holds Try.pinned (OpenSpec.upto rootPartsSpec)

/-- 'hwkeep.PowerGrows', WHERE WHAT IT READS IS OF BULK AT MOST 1048576: true; the input reads as it did. -/
def powerGrowsUptoRow : OpenClaim := { program := "ytjmkmcjpppdglaa", sum := "db3f37ee512faba5d2e38d3825f6eec04373c8d955f9c497842ea3128953f7f6", func := "heartwood/hwkeep.PowerGrows", spec := "powerGrows", inPlace := ["math/bits.Add64"], apart := false, narrowed := true }
def PowerGrowsUptoSaid : Prop := powerGrowsUptoRow.holds Try.pinned (OpenSpec.upto powerGrowsSpec)

/-- 'hwkeep.DecLong', WHERE WHAT IT READS IS OF BULK AT MOST 1048576: true; the input reads as it did. -/
def decLongUptoRow : OpenClaim := { program := "ytjmkmcjpppdglaa", sum := "db3f37ee512faba5d2e38d3825f6eec04373c8d955f9c497842ea3128953f7f6", func := "heartwood/hwkeep.DecLong", spec := "decLong", inPlace := ["math/bits.Add64", "math/bits.Sub64"], named := ["math/bits.divideError", "math/bits.overflowError"], apart := false, narrowed := true }
def DecLongUptoSaid : Prop := decLongUptoRow.holds Try.pinned (OpenSpec.upto decLongSpec)

/-- 'hwtop.TopRoot', WHERE WHAT IT READS IS OF BULK AT MOST 1048576: true; the input reads as it did. -/
def topRootUptoRow : OpenClaim := { program := "ytjmkmcjpppdglaa", sum := "db3f37ee512faba5d2e38d3825f6eec04373c8d955f9c497842ea3128953f7f6", func := "heartwood/hwtop.TopRoot", spec := "topRoot", inPlace := ["math/bits.Add64", "math/bits.Sub64"], named := ["math/bits.divideError", "math/bits.overflowError"], apart := false, narrowed := true }
def TopRootUptoSaid : Prop := topRootUptoRow.holds Try.pinned (OpenSpec.upto topRootSpec)

end Rows
end Go.Proofs.Ytjmkmcjpppdglaa
