/-
  NARROWER THAN 'FOR EVERY INPUT', by the rows' own cells (each row's printed sentence says how): CrcSays: laid · BeatSays: laid · CrcLinear: laid · CrcBursts: laid · BeatBack: laid · BeatOne: laid · BeatBursts: laid · BeatSize: laid.
  DERIVED. THE GIVEN ROWS OF THIS SEAT. 8 by the template 'for every input the law returns true; each argument reads behind the call as it read before'; 0 by the template 'total and deterministic' (their statements: YtmacgmngbmaadaaDoorTotals.lean).
  GIVEN WITH THE SEED: the statements are not yours to turn. If you find one false, say at which input.
  Laid BY PROGRAM, IN A SANDBOX (cutbox-rows.mjs): the forced cells as the released guide's own fill.sh prints them over the translation 340248ef14db8351… (all of the seat's roots in one cut). By AI agents, Wed Nov 11 2026. No macro, syntax, notation, axiom, sorry.
-/
import Derived.Test.YtmacgmngbmaadaaDoorChecked
import GoSem.Claim
import GoSem.ClaimJoined
import GoSem.ClaimMapViews
import Derived.JoinedTies
import Derived.KernelRfl
namespace Go.Proofs.YtmacgmngbmaadaaDoor
/- THE CELL 'sum', in the pinned program and in every row, IS THE sha256 OF THE DUMP (.gsa) THAT YtmacgmngbmaadaaDoorProg.lean LOADS. Nothing in Lean hashes anything: it is a label: what it is worth is what the hold of that sum in a sandbox is worth. -/
noncomputable def Tryd.pinned : Pinned := { name := "ytmacgmngbmaadaadoor", sum := "340248ef14db835126c507c522656e6db06aa9d49018fef09b5d765ec6ade01a", checked := Tryd.checked }
namespace Rows
def none {H : Type} : Left H := { results := [], args := [] }

/- WHAT THE LISTED PACKAGE-LEVEL VARIABLES READ AS WHEN THE CALL BEGINS. Each datum BY PROGRAM (the guide's laid-datum.mjs) off the statement by which the dump's own 'gosem.cut.vars' lays the variable. In a bare row this is a premise. The card (YtmacgmngbmaadaaDoorCards.lean) ties it to the program's text. -/
def laid_heartwood_crc_table {H : Type} : DataW H := .agg [.lit (.int .u32 0), .lit (.int .u32 498536548), .lit (.int .u32 997073096), .lit (.int .u32 651767980), .lit (.int .u32 1994146192), .lit (.int .u32 1802195444), .lit (.int .u32 1303535960), .lit (.int .u32 1342533948), .lit (.int .u32 3988292384), .lit (.int .u32 4027552580), .lit (.int .u32 3604390888), .lit (.int .u32 3412177804), .lit (.int .u32 2607071920), .lit (.int .u32 2262029012), .lit (.int .u32 2685067896), .lit (.int .u32 3183342108)]

/-- 'hwlaw.CrcSays': WHATEVER THE INPUT: true; the input reads as it did. -/
def crcSaysSpec : ChangeSpec := { name := "crcSays", fn := fun _ => fun
  | [d] => { results := [.lit (.bool true)], args := [d] }
  | _ => none }
def crcSaysRow : OpenClaim := { program := "ytmacgmngbmaadaadoor", sum := "340248ef14db835126c507c522656e6db06aa9d49018fef09b5d765ec6ade01a", func := "heartwood/hwlaw.CrcSays", spec := "crcSays", named := ["heartwood/crc.table"], apart := false, laid := [("heartwood/crc.table", laid_heartwood_crc_table)] }
def CrcSaysSaid : Prop := crcSaysRow.holds Tryd.pinned (OpenSpec.ofChange crcSaysSpec)

/-- ITS FALSE NEIGHBOUR: 'it returns false'. Refute it at one input. -/
def crcSaysWrong : ChangeSpec := { name := "crcSays", fn := fun _ => fun
  | [d] => { results := [.lit (.bool false)], args := [d] }
  | _ => none }
def CrcSaysWrongFalsely : Prop := crcSaysRow.holds Tryd.pinned (OpenSpec.ofChange crcSaysWrong)

/-- 'hwlaw.BeatSays': WHATEVER THE INPUT: true; the input reads as it did. -/
def beatSaysSpec : ChangeSpec := { name := "beatSays", fn := fun _ => fun
  | [d1, d2] => { results := [.lit (.bool true)], args := [d1, d2] }
  | _ => none }
def beatSaysRow : OpenClaim := { program := "ytmacgmngbmaadaadoor", sum := "340248ef14db835126c507c522656e6db06aa9d49018fef09b5d765ec6ade01a", func := "heartwood/hwlaw.BeatSays", spec := "beatSays", unfollowed := true, recurses := true, named := ["heartwood/crc.table"], apart := false, laid := [("heartwood/crc.table", laid_heartwood_crc_table)] }
def BeatSaysSaid : Prop := beatSaysRow.holds Tryd.pinned (OpenSpec.ofChange beatSaysSpec)

/-- ITS FALSE NEIGHBOUR: 'it returns false'. Refute it at one input. -/
def beatSaysWrong : ChangeSpec := { name := "beatSays", fn := fun _ => fun
  | [d1, d2] => { results := [.lit (.bool false)], args := [d1, d2] }
  | _ => none }
def BeatSaysWrongFalsely : Prop := beatSaysRow.holds Tryd.pinned (OpenSpec.ofChange beatSaysWrong)

/-- 'hwkeep.CrcLinear': WHATEVER THE INPUT: true; the input reads as it did. -/
def crcLinearSpec : ChangeSpec := { name := "crcLinear", fn := fun _ => fun
  | [d1, d2, d3] => { results := [.lit (.bool true)], args := [d1, d2, d3] }
  | _ => none }
def crcLinearRow : OpenClaim := { program := "ytmacgmngbmaadaadoor", sum := "340248ef14db835126c507c522656e6db06aa9d49018fef09b5d765ec6ade01a", func := "heartwood/hwkeep.CrcLinear", spec := "crcLinear", named := ["heartwood/crc.table"], apart := false, laid := [("heartwood/crc.table", laid_heartwood_crc_table)] }
def CrcLinearSaid : Prop := crcLinearRow.holds Tryd.pinned (OpenSpec.ofChange crcLinearSpec)

/-- ITS FALSE NEIGHBOUR: 'it returns false'. Refute it at one input. -/
def crcLinearWrong : ChangeSpec := { name := "crcLinear", fn := fun _ => fun
  | [d1, d2, d3] => { results := [.lit (.bool false)], args := [d1, d2, d3] }
  | _ => none }
def CrcLinearWrongFalsely : Prop := crcLinearRow.holds Tryd.pinned (OpenSpec.ofChange crcLinearWrong)

/-- 'hwkeep.CrcBursts': WHATEVER THE INPUT: true; the input reads as it did. -/
def crcBurstsSpec : ChangeSpec := { name := "crcBursts", fn := fun _ => fun
  | [d1, d2, d3] => { results := [.lit (.bool true)], args := [d1, d2, d3] }
  | _ => none }
def crcBurstsRow : OpenClaim := { program := "ytmacgmngbmaadaadoor", sum := "340248ef14db835126c507c522656e6db06aa9d49018fef09b5d765ec6ade01a", func := "heartwood/hwkeep.CrcBursts", spec := "crcBursts", named := ["heartwood/crc.table"], apart := false, laid := [("heartwood/crc.table", laid_heartwood_crc_table)] }
def CrcBurstsSaid : Prop := crcBurstsRow.holds Tryd.pinned (OpenSpec.ofChange crcBurstsSpec)

/-- ITS FALSE NEIGHBOUR: 'it returns false'. Refute it at one input. -/
def crcBurstsWrong : ChangeSpec := { name := "crcBursts", fn := fun _ => fun
  | [d1, d2, d3] => { results := [.lit (.bool false)], args := [d1, d2, d3] }
  | _ => none }
def CrcBurstsWrongFalsely : Prop := crcBurstsRow.holds Tryd.pinned (OpenSpec.ofChange crcBurstsWrong)

/-- 'hwkeep.BeatBack': WHATEVER THE INPUT: true; the input reads as it did. -/
def beatBackSpec : ChangeSpec := { name := "beatBack", fn := fun _ => fun
  | [d1, d2, d3, d4] => { results := [.lit (.bool true)], args := [d1, d2, d3, d4] }
  | _ => none }
def beatBackRow : OpenClaim := { program := "ytmacgmngbmaadaadoor", sum := "340248ef14db835126c507c522656e6db06aa9d49018fef09b5d765ec6ade01a", func := "heartwood/hwkeep.BeatBack", spec := "beatBack", named := ["heartwood/crc.table"], apart := false, laid := [("heartwood/crc.table", laid_heartwood_crc_table)] }
def BeatBackSaid : Prop := beatBackRow.holds Tryd.pinned (OpenSpec.ofChange beatBackSpec)

/-- ITS FALSE NEIGHBOUR: 'it returns false'. Refute it at one input. -/
def beatBackWrong : ChangeSpec := { name := "beatBack", fn := fun _ => fun
  | [d1, d2, d3, d4] => { results := [.lit (.bool false)], args := [d1, d2, d3, d4] }
  | _ => none }
def BeatBackWrongFalsely : Prop := beatBackRow.holds Tryd.pinned (OpenSpec.ofChange beatBackWrong)

/-- 'hwkeep.BeatOne': WHATEVER THE INPUT: true; the input reads as it did. -/
def beatOneSpec : ChangeSpec := { name := "beatOne", fn := fun _ => fun
  | [d] => { results := [.lit (.bool true)], args := [d] }
  | _ => none }
def beatOneRow : OpenClaim := { program := "ytmacgmngbmaadaadoor", sum := "340248ef14db835126c507c522656e6db06aa9d49018fef09b5d765ec6ade01a", func := "heartwood/hwkeep.BeatOne", spec := "beatOne", named := ["heartwood/crc.table"], apart := false, laid := [("heartwood/crc.table", laid_heartwood_crc_table)] }
def BeatOneSaid : Prop := beatOneRow.holds Tryd.pinned (OpenSpec.ofChange beatOneSpec)

/-- ITS FALSE NEIGHBOUR: 'it returns false'. Refute it at one input. -/
def beatOneWrong : ChangeSpec := { name := "beatOne", fn := fun _ => fun
  | [d] => { results := [.lit (.bool false)], args := [d] }
  | _ => none }
def BeatOneWrongFalsely : Prop := beatOneRow.holds Tryd.pinned (OpenSpec.ofChange beatOneWrong)

/-- 'hwkeep.BeatBursts': WHATEVER THE INPUT: true; the input reads as it did. -/
def beatBurstsSpec : ChangeSpec := { name := "beatBursts", fn := fun _ => fun
  | [d1, d2, d3] => { results := [.lit (.bool true)], args := [d1, d2, d3] }
  | _ => none }
def beatBurstsRow : OpenClaim := { program := "ytmacgmngbmaadaadoor", sum := "340248ef14db835126c507c522656e6db06aa9d49018fef09b5d765ec6ade01a", func := "heartwood/hwkeep.BeatBursts", spec := "beatBursts", named := ["heartwood/crc.table"], apart := false, laid := [("heartwood/crc.table", laid_heartwood_crc_table)] }
def BeatBurstsSaid : Prop := beatBurstsRow.holds Tryd.pinned (OpenSpec.ofChange beatBurstsSpec)

/-- ITS FALSE NEIGHBOUR: 'it returns false'. Refute it at one input. -/
def beatBurstsWrong : ChangeSpec := { name := "beatBursts", fn := fun _ => fun
  | [d1, d2, d3] => { results := [.lit (.bool false)], args := [d1, d2, d3] }
  | _ => none }
def BeatBurstsWrongFalsely : Prop := beatBurstsRow.holds Tryd.pinned (OpenSpec.ofChange beatBurstsWrong)

/-- 'hwkeep.BeatSize': WHATEVER THE INPUT: true; the input reads as it did. -/
def beatSizeSpec : ChangeSpec := { name := "beatSize", fn := fun _ => fun
  | [d1, d2] => { results := [.lit (.bool true)], args := [d1, d2] }
  | _ => none }
def beatSizeRow : OpenClaim := { program := "ytmacgmngbmaadaadoor", sum := "340248ef14db835126c507c522656e6db06aa9d49018fef09b5d765ec6ade01a", func := "heartwood/hwkeep.BeatSize", spec := "beatSize", named := ["heartwood/crc.table"], apart := false, laid := [("heartwood/crc.table", laid_heartwood_crc_table)] }
def BeatSizeSaid : Prop := beatSizeRow.holds Tryd.pinned (OpenSpec.ofChange beatSizeSpec)

/-- ITS FALSE NEIGHBOUR: 'it returns false'. Refute it at one input. -/
def beatSizeWrong : ChangeSpec := { name := "beatSize", fn := fun _ => fun
  | [d1, d2] => { results := [.lit (.bool false)], args := [d1, d2] }
  | _ => none }
def BeatSizeWrongFalsely : Prop := beatSizeRow.holds Tryd.pinned (OpenSpec.ofChange beatSizeWrong)

/- THE SECOND FORM. 'bulk': how many values and letters a reading holds, each counted each time it is reached (what is shared counts as often as it is met; a slice's spare places count too). A statement '..UptoSaid' is the law's where the arguments, and the package variables that the reading takes, are together of bulk at most 1048576: NARROWER than '..Said'. Prove '..Said' where nothing that the law and all that it calls make is longer than what came in: it says more and counts as full. Else prove '..UptoSaid'. A law counts once. -/
mutual
def uptoBulk {H : Type} : DataW H → Nat
  | .lit (.string bytes) => bytes.length + 1
  | .lit _ => 1
  | .nil => 1
  | .ptr d => uptoBulk d + 1
  | .slice elems spare => uptoBulkAll elems + uptoBulkAll spare + 1
  | .agg parts => uptoBulkAll parts + 1
  | .iface _ d => uptoBulk d + 1
  | .map entries => uptoBulkEntries entries + 1
  | .held _ => 1
def uptoBulkAll {H : Type} : List (DataW H) → Nat
  | [] => 0
  | d :: r => uptoBulk d + uptoBulkAll r
def uptoBulkEntries {H : Type} : List (Lit × DataW H) → Nat
  | [] => 0
  | x :: r => uptoBulkEntry x + uptoBulkEntries r
def uptoBulkEntry {H : Type} : Lit × DataW H → Nat
  | (.string bytes, d) => bytes.length + uptoBulk d + 1
  | (_, d) => uptoBulk d + 1
 end
def uptoSmall : (H : Type) → List (DataW H) → Bool := fun _ ds => decide (uptoBulkAll ds ≤ 1048576)
def OpenSpec.upto (s : _root_.Go.ChangeSpec) : _root_.Go.OpenSpec := { _root_.Go.OpenSpec.ofChange s with cond := some uptoSmall }

/-- 'hwlaw.CrcSays', WHERE WHAT IT READS IS OF BULK AT MOST 1048576: true; the input reads as it did. -/
def crcSaysUptoRow : OpenClaim := { program := "ytmacgmngbmaadaadoor", sum := "340248ef14db835126c507c522656e6db06aa9d49018fef09b5d765ec6ade01a", func := "heartwood/hwlaw.CrcSays", spec := "crcSays", named := ["heartwood/crc.table"], apart := false, laid := [("heartwood/crc.table", laid_heartwood_crc_table)], narrowed := true }
def CrcSaysUptoSaid : Prop := crcSaysUptoRow.holds Tryd.pinned (OpenSpec.upto crcSaysSpec)

/-- 'hwlaw.BeatSays', WHERE WHAT IT READS IS OF BULK AT MOST 1048576: true; the input reads as it did. -/
def beatSaysUptoRow : OpenClaim := { program := "ytmacgmngbmaadaadoor", sum := "340248ef14db835126c507c522656e6db06aa9d49018fef09b5d765ec6ade01a", func := "heartwood/hwlaw.BeatSays", spec := "beatSays", unfollowed := true, recurses := true, named := ["heartwood/crc.table"], apart := false, laid := [("heartwood/crc.table", laid_heartwood_crc_table)], narrowed := true }
def BeatSaysUptoSaid : Prop := beatSaysUptoRow.holds Tryd.pinned (OpenSpec.upto beatSaysSpec)

/-- 'hwkeep.CrcLinear', WHERE WHAT IT READS IS OF BULK AT MOST 1048576: true; the input reads as it did. -/
def crcLinearUptoRow : OpenClaim := { program := "ytmacgmngbmaadaadoor", sum := "340248ef14db835126c507c522656e6db06aa9d49018fef09b5d765ec6ade01a", func := "heartwood/hwkeep.CrcLinear", spec := "crcLinear", named := ["heartwood/crc.table"], apart := false, laid := [("heartwood/crc.table", laid_heartwood_crc_table)], narrowed := true }
def CrcLinearUptoSaid : Prop := crcLinearUptoRow.holds Tryd.pinned (OpenSpec.upto crcLinearSpec)

/-- 'hwkeep.CrcBursts', WHERE WHAT IT READS IS OF BULK AT MOST 1048576: true; the input reads as it did. -/
def crcBurstsUptoRow : OpenClaim := { program := "ytmacgmngbmaadaadoor", sum := "340248ef14db835126c507c522656e6db06aa9d49018fef09b5d765ec6ade01a", func := "heartwood/hwkeep.CrcBursts", spec := "crcBursts", named := ["heartwood/crc.table"], apart := false, laid := [("heartwood/crc.table", laid_heartwood_crc_table)], narrowed := true }
def CrcBurstsUptoSaid : Prop := crcBurstsUptoRow.holds Tryd.pinned (OpenSpec.upto crcBurstsSpec)

/-- 'hwkeep.BeatBack', WHERE WHAT IT READS IS OF BULK AT MOST 1048576: true; the input reads as it did. -/
def beatBackUptoRow : OpenClaim := { program := "ytmacgmngbmaadaadoor", sum := "340248ef14db835126c507c522656e6db06aa9d49018fef09b5d765ec6ade01a", func := "heartwood/hwkeep.BeatBack", spec := "beatBack", named := ["heartwood/crc.table"], apart := false, laid := [("heartwood/crc.table", laid_heartwood_crc_table)], narrowed := true }
def BeatBackUptoSaid : Prop := beatBackUptoRow.holds Tryd.pinned (OpenSpec.upto beatBackSpec)

/-- 'hwkeep.BeatOne', WHERE WHAT IT READS IS OF BULK AT MOST 1048576: true; the input reads as it did. -/
def beatOneUptoRow : OpenClaim := { program := "ytmacgmngbmaadaadoor", sum := "340248ef14db835126c507c522656e6db06aa9d49018fef09b5d765ec6ade01a", func := "heartwood/hwkeep.BeatOne", spec := "beatOne", named := ["heartwood/crc.table"], apart := false, laid := [("heartwood/crc.table", laid_heartwood_crc_table)], narrowed := true }
def BeatOneUptoSaid : Prop := beatOneUptoRow.holds Tryd.pinned (OpenSpec.upto beatOneSpec)

/-- 'hwkeep.BeatBursts', WHERE WHAT IT READS IS OF BULK AT MOST 1048576: true; the input reads as it did. -/
def beatBurstsUptoRow : OpenClaim := { program := "ytmacgmngbmaadaadoor", sum := "340248ef14db835126c507c522656e6db06aa9d49018fef09b5d765ec6ade01a", func := "heartwood/hwkeep.BeatBursts", spec := "beatBursts", named := ["heartwood/crc.table"], apart := false, laid := [("heartwood/crc.table", laid_heartwood_crc_table)], narrowed := true }
def BeatBurstsUptoSaid : Prop := beatBurstsUptoRow.holds Tryd.pinned (OpenSpec.upto beatBurstsSpec)

/-- 'hwkeep.BeatSize', WHERE WHAT IT READS IS OF BULK AT MOST 1048576: true; the input reads as it did. -/
def beatSizeUptoRow : OpenClaim := { program := "ytmacgmngbmaadaadoor", sum := "340248ef14db835126c507c522656e6db06aa9d49018fef09b5d765ec6ade01a", func := "heartwood/hwkeep.BeatSize", spec := "beatSize", named := ["heartwood/crc.table"], apart := false, laid := [("heartwood/crc.table", laid_heartwood_crc_table)], narrowed := true }
def BeatSizeUptoSaid : Prop := beatSizeUptoRow.holds Tryd.pinned (OpenSpec.upto beatSizeSpec)

end Rows
end Go.Proofs.YtmacgmngbmaadaaDoor
