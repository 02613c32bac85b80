/-
  No cell of these rows narrows 'for every input' (looked for: loops, veiled, ifaces, maps, wideKeys, modest, calm, conditions, laid).
  DERIVED. THE GIVEN ROWS OF THIS SEAT. 7 by the template 'for every input the law returns true; each argument reads behind the call as it read before'; 0 by the template 'total and deterministic' (their statements: YtgklfolmlcfjgaaTotals.lean).
  GIVEN WITH THE SEED: the statements are not yours to turn. If you find one false, say at which input.
  Laid BY PROGRAM, IN A SANDBOX (cutbox-rows.mjs): the forced cells as the released guide's own fill.sh prints them over the translation 7228f03272563aec… (all of the seat's roots in one cut). By AI agents, Wed Nov 11 2026. No macro, syntax, notation, axiom, sorry.
-/
import Derived.Test.YtgklfolmlcfjgaaChecked
import GoSem.Claim
import GoSem.ClaimJoined
import GoSem.ClaimMapViews
import Derived.JoinedTies
import Derived.KernelRfl
namespace Go.Proofs.Ytgklfolmlcfjgaa
/- THE CELL 'sum', in the pinned program and in every row, IS THE sha256 OF THE DUMP (.gsa) THAT YtgklfolmlcfjgaaProg.lean LOADS. Nothing in Lean hashes anything: it is a label: what it is worth is what the hold of that sum in a sandbox is worth. -/
noncomputable def Try.pinned : Pinned := { name := "ytgklfolmlcfjgaa", sum := "7228f03272563aec09675f96fa95d8afff54b37a2efe1c4e07251710a6fb68f3", checked := Try.checked }
namespace Rows
def none {H : Type} : Left H := { results := [], args := [] }

/-- 'hwlaw.PeersSay': WHATEVER THE INPUT: true; the input reads as it did. -/
def peersSaySpec : ChangeSpec := { name := "peersSay", fn := fun _ => fun
  | [d1, d2, d3, d4, d5] => { results := [.lit (.bool true)], args := [d1, d2, d3, d4, d5] }
  | _ => none }
def peersSayRow : OpenClaim := { program := "ytgklfolmlcfjgaa", sum := "7228f03272563aec09675f96fa95d8afff54b37a2efe1c4e07251710a6fb68f3", func := "heartwood/hwlaw.PeersSay", spec := "peersSay", unfollowed := true, recurses := true, apart := false }
def PeersSaySaid : Prop := peersSayRow.holds Try.pinned (OpenSpec.ofChange peersSaySpec)

/-- ITS FALSE NEIGHBOUR: 'it returns false'. Refute it at one input. -/
def peersSayWrong : ChangeSpec := { name := "peersSay", fn := fun _ => fun
  | [d1, d2, d3, d4, d5] => { results := [.lit (.bool false)], args := [d1, d2, d3, d4, d5] }
  | _ => none }
def PeersSayWrongFalsely : Prop := peersSayRow.holds Try.pinned (OpenSpec.ofChange peersSayWrong)

/-- 'hwlaw.PeersHear': WHATEVER THE INPUT: true; the input reads as it did. -/
def peersHearSpec : ChangeSpec := { name := "peersHear", fn := fun _ => fun
  | [d1, d2, d3] => { results := [.lit (.bool true)], args := [d1, d2, d3] }
  | _ => none }
def peersHearRow : OpenClaim := { program := "ytgklfolmlcfjgaa", sum := "7228f03272563aec09675f96fa95d8afff54b37a2efe1c4e07251710a6fb68f3", func := "heartwood/hwlaw.PeersHear", spec := "peersHear", unfollowed := true, recurses := true, apart := false }
def PeersHearSaid : Prop := peersHearRow.holds Try.pinned (OpenSpec.ofChange peersHearSpec)

/-- ITS FALSE NEIGHBOUR: 'it returns false'. Refute it at one input. -/
def peersHearWrong : ChangeSpec := { name := "peersHear", fn := fun _ => fun
  | [d1, d2, d3] => { results := [.lit (.bool false)], args := [d1, d2, d3] }
  | _ => none }
def PeersHearWrongFalsely : Prop := peersHearRow.holds Try.pinned (OpenSpec.ofChange peersHearWrong)

/-- 'hwkeep.PeersBack': WHATEVER THE INPUT: true; the input reads as it did. -/
def peersBackSpec : ChangeSpec := { name := "peersBack", fn := fun _ => fun
  | [d1, d2, d3, d4, d5] => { results := [.lit (.bool true)], args := [d1, d2, d3, d4, d5] }
  | _ => none }
def peersBackRow : OpenClaim := { program := "ytgklfolmlcfjgaa", sum := "7228f03272563aec09675f96fa95d8afff54b37a2efe1c4e07251710a6fb68f3", func := "heartwood/hwkeep.PeersBack", spec := "peersBack", unfollowed := true, recurses := true, apart := false }
def PeersBackSaid : Prop := peersBackRow.holds Try.pinned (OpenSpec.ofChange peersBackSpec)

/-- ITS FALSE NEIGHBOUR: 'it returns false'. Refute it at one input. -/
def peersBackWrong : ChangeSpec := { name := "peersBack", fn := fun _ => fun
  | [d1, d2, d3, d4, d5] => { results := [.lit (.bool false)], args := [d1, d2, d3, d4, d5] }
  | _ => none }
def PeersBackWrongFalsely : Prop := peersBackRow.holds Try.pinned (OpenSpec.ofChange peersBackWrong)

/-- 'hwkeep.PeersHeard': WHATEVER THE INPUT: true; the input reads as it did. -/
def peersHeardSpec : ChangeSpec := { name := "peersHeard", fn := fun _ => fun
  | [d1, d2, d3] => { results := [.lit (.bool true)], args := [d1, d2, d3] }
  | _ => none }
def peersHeardRow : OpenClaim := { program := "ytgklfolmlcfjgaa", sum := "7228f03272563aec09675f96fa95d8afff54b37a2efe1c4e07251710a6fb68f3", func := "heartwood/hwkeep.PeersHeard", spec := "peersHeard", unfollowed := true, recurses := true, apart := false }
def PeersHeardSaid : Prop := peersHeardRow.holds Try.pinned (OpenSpec.ofChange peersHeardSpec)

/-- ITS FALSE NEIGHBOUR: 'it returns false'. Refute it at one input. -/
def peersHeardWrong : ChangeSpec := { name := "peersHeard", fn := fun _ => fun
  | [d1, d2, d3] => { results := [.lit (.bool false)], args := [d1, d2, d3] }
  | _ => none }
def PeersHeardWrongFalsely : Prop := peersHeardRow.holds Try.pinned (OpenSpec.ofChange peersHeardWrong)

/-- 'hwkeep.PeersApart': WHATEVER THE INPUT: true; the input reads as it did. -/
def peersApartSpec : ChangeSpec := { name := "peersApart", fn := fun _ => fun
  | [d1, d2, d3, d4, d5, d6] => { results := [.lit (.bool true)], args := [d1, d2, d3, d4, d5, d6] }
  | _ => none }
def peersApartRow : OpenClaim := { program := "ytgklfolmlcfjgaa", sum := "7228f03272563aec09675f96fa95d8afff54b37a2efe1c4e07251710a6fb68f3", func := "heartwood/hwkeep.PeersApart", spec := "peersApart", unfollowed := true, recurses := true, apart := false }
def PeersApartSaid : Prop := peersApartRow.holds Try.pinned (OpenSpec.ofChange peersApartSpec)

/-- ITS FALSE NEIGHBOUR: 'it returns false'. Refute it at one input. -/
def peersApartWrong : ChangeSpec := { name := "peersApart", fn := fun _ => fun
  | [d1, d2, d3, d4, d5, d6] => { results := [.lit (.bool false)], args := [d1, d2, d3, d4, d5, d6] }
  | _ => none }
def PeersApartWrongFalsely : Prop := peersApartRow.holds Try.pinned (OpenSpec.ofChange peersApartWrong)

/-- 'hwkeep.ValuesOwn': WHATEVER THE INPUT: true; the input reads as it did. -/
def valuesOwnSpec : ChangeSpec := { name := "valuesOwn", fn := fun _ => fun
  | [d1, d2, d3] => { results := [.lit (.bool true)], args := [d1, d2, d3] }
  | _ => none }
def valuesOwnRow : OpenClaim := { program := "ytgklfolmlcfjgaa", sum := "7228f03272563aec09675f96fa95d8afff54b37a2efe1c4e07251710a6fb68f3", func := "heartwood/hwkeep.ValuesOwn", spec := "valuesOwn", inPlace := ["math/bits.Add64"], unfollowed := true, recurses := true, apart := false }
def ValuesOwnSaid : Prop := valuesOwnRow.holds Try.pinned (OpenSpec.ofChange valuesOwnSpec)

/-- ITS FALSE NEIGHBOUR: 'it returns false'. Refute it at one input. -/
def valuesOwnWrong : ChangeSpec := { name := "valuesOwn", fn := fun _ => fun
  | [d1, d2, d3] => { results := [.lit (.bool false)], args := [d1, d2, d3] }
  | _ => none }
def ValuesOwnWrongFalsely : Prop := valuesOwnRow.holds Try.pinned (OpenSpec.ofChange valuesOwnWrong)

/-- 'hwkeep.PeersOwn': WHATEVER THE INPUT: true; the input reads as it did. -/
def peersOwnSpec : ChangeSpec := { name := "peersOwn", fn := fun _ => fun
  | [d1, d2, d3, d4] => { results := [.lit (.bool true)], args := [d1, d2, d3, d4] }
  | _ => none }
def peersOwnRow : OpenClaim := { program := "ytgklfolmlcfjgaa", sum := "7228f03272563aec09675f96fa95d8afff54b37a2efe1c4e07251710a6fb68f3", func := "heartwood/hwkeep.PeersOwn", spec := "peersOwn", unfollowed := true, recurses := true, apart := false }
def PeersOwnSaid : Prop := peersOwnRow.holds Try.pinned (OpenSpec.ofChange peersOwnSpec)

/-- ITS FALSE NEIGHBOUR: 'it returns false'. Refute it at one input. -/
def peersOwnWrong : ChangeSpec := { name := "peersOwn", fn := fun _ => fun
  | [d1, d2, d3, d4] => { results := [.lit (.bool false)], args := [d1, d2, d3, d4] }
  | _ => none }
def PeersOwnWrongFalsely : Prop := peersOwnRow.holds Try.pinned (OpenSpec.ofChange peersOwnWrong)

/- THE SECOND FORM. 'bulk': how many values and letters a reading holds, each counted each time it is reached (what is shared counts as often as it is met; a slice's spare places count too). A statement '..UptoSaid' is the law's where the arguments, and the package variables that the reading takes, are together of bulk at most 1048576: NARROWER than '..Said'. Prove '..Said' where nothing that the law and all that it calls make is longer than what came in: it says more and counts as full. Else prove '..UptoSaid'. A law counts once. -/
mutual
def uptoBulk {H : Type} : DataW H → Nat
  | .lit (.string bytes) => bytes.length + 1
  | .lit _ => 1
  | .nil => 1
  | .ptr d => uptoBulk d + 1
  | .slice elems spare => uptoBulkAll elems + uptoBulkAll spare + 1
  | .agg parts => uptoBulkAll parts + 1
  | .iface _ d => uptoBulk d + 1
  | .map entries => uptoBulkEntries entries + 1
  | .held _ => 1
def uptoBulkAll {H : Type} : List (DataW H) → Nat
  | [] => 0
  | d :: r => uptoBulk d + uptoBulkAll r
def uptoBulkEntries {H : Type} : List (Lit × DataW H) → Nat
  | [] => 0
  | x :: r => uptoBulkEntry x + uptoBulkEntries r
def uptoBulkEntry {H : Type} : Lit × DataW H → Nat
  | (.string bytes, d) => bytes.length + uptoBulk d + 1
  | (_, d) => uptoBulk d + 1
 end
def uptoSmall : (H : Type) → List (DataW H) → Bool := fun _ ds => decide (uptoBulkAll ds ≤ 1048576)
def OpenSpec.upto (s : _root_.Go.ChangeSpec) : _root_.Go.OpenSpec := { _root_.Go.OpenSpec.ofChange s with cond := some uptoSmall }

/-- 'hwlaw.PeersSay', WHERE WHAT IT READS IS OF BULK AT MOST 1048576: true; the input reads as it did. -/
def peersSayUptoRow : OpenClaim := { program := "ytgklfolmlcfjgaa", sum := "7228f03272563aec09675f96fa95d8afff54b37a2efe1c4e07251710a6fb68f3", func := "heartwood/hwlaw.PeersSay", spec := "peersSay", unfollowed := true, recurses := true, apart := false, narrowed := true }
def PeersSayUptoSaid : Prop := peersSayUptoRow.holds Try.pinned (OpenSpec.upto peersSaySpec)

/-- 'hwlaw.PeersHear', WHERE WHAT IT READS IS OF BULK AT MOST 1048576: true; the input reads as it did. -/
def peersHearUptoRow : OpenClaim := { program := "ytgklfolmlcfjgaa", sum := "7228f03272563aec09675f96fa95d8afff54b37a2efe1c4e07251710a6fb68f3", func := "heartwood/hwlaw.PeersHear", spec := "peersHear", unfollowed := true, recurses := true, apart := false, narrowed := true }
def PeersHearUptoSaid : Prop := peersHearUptoRow.holds Try.pinned (OpenSpec.upto peersHearSpec)

/-- 'hwkeep.PeersBack', WHERE WHAT IT READS IS OF BULK AT MOST 1048576: true; the input reads as it did. -/
def peersBackUptoRow : OpenClaim := { program := "ytgklfolmlcfjgaa", sum := "7228f03272563aec09675f96fa95d8afff54b37a2efe1c4e07251710a6fb68f3", func := "heartwood/hwkeep.PeersBack", spec := "peersBack", unfollowed := true, recurses := true, apart := false, narrowed := true }
def PeersBackUptoSaid : Prop := peersBackUptoRow.holds Try.pinned (OpenSpec.upto peersBackSpec)

/-- 'hwkeep.PeersHeard', WHERE WHAT IT READS IS OF BULK AT MOST 1048576: true; the input reads as it did. -/
def peersHeardUptoRow : OpenClaim := { program := "ytgklfolmlcfjgaa", sum := "7228f03272563aec09675f96fa95d8afff54b37a2efe1c4e07251710a6fb68f3", func := "heartwood/hwkeep.PeersHeard", spec := "peersHeard", unfollowed := true, recurses := true, apart := false, narrowed := true }
def PeersHeardUptoSaid : Prop := peersHeardUptoRow.holds Try.pinned (OpenSpec.upto peersHeardSpec)

/-- 'hwkeep.PeersApart', WHERE WHAT IT READS IS OF BULK AT MOST 1048576: true; the input reads as it did. -/
def peersApartUptoRow : OpenClaim := { program := "ytgklfolmlcfjgaa", sum := "7228f03272563aec09675f96fa95d8afff54b37a2efe1c4e07251710a6fb68f3", func := "heartwood/hwkeep.PeersApart", spec := "peersApart", unfollowed := true, recurses := true, apart := false, narrowed := true }
def PeersApartUptoSaid : Prop := peersApartUptoRow.holds Try.pinned (OpenSpec.upto peersApartSpec)

/-- 'hwkeep.ValuesOwn', WHERE WHAT IT READS IS OF BULK AT MOST 1048576: true; the input reads as it did. -/
def valuesOwnUptoRow : OpenClaim := { program := "ytgklfolmlcfjgaa", sum := "7228f03272563aec09675f96fa95d8afff54b37a2efe1c4e07251710a6fb68f3", func := "heartwood/hwkeep.ValuesOwn", spec := "valuesOwn", inPlace := ["math/bits.Add64"], unfollowed := true, recurses := true, apart := false, narrowed := true }
def ValuesOwnUptoSaid : Prop := valuesOwnUptoRow.holds Try.pinned (OpenSpec.upto valuesOwnSpec)

/-- 'hwkeep.PeersOwn', WHERE WHAT IT READS IS OF BULK AT MOST 1048576: true; the input reads as it did. -/
def peersOwnUptoRow : OpenClaim := { program := "ytgklfolmlcfjgaa", sum := "7228f03272563aec09675f96fa95d8afff54b37a2efe1c4e07251710a6fb68f3", func := "heartwood/hwkeep.PeersOwn", spec := "peersOwn", unfollowed := true, recurses := true, apart := false, narrowed := true }
def PeersOwnUptoSaid : Prop := peersOwnUptoRow.holds Try.pinned (OpenSpec.upto peersOwnSpec)

end Rows
end Go.Proofs.Ytgklfolmlcfjgaa
