/- A region of a function's code, taken out of the translation by its number. -/
import Derived.Test.YtofbmpmefgapfaaProg
namespace Go.Proofs.Ytofbmpmefgapfaa
def findRegion (n : Nat) : Code → Option Code
  | .region id ops d => if id == n then some (.region id ops d) else none
  | .seq a b => match findRegion n a with
    | some c => some c
    | none => findRegion n b
  | .cond _ a b => match findRegion n a with
    | some c => some c
    | none => findRegion n b
  | .loop c => findRegion n c
  | .block _ c => findRegion n c
  | .scope c => findRegion n c
  | _ => none
/-- The first loop of a function's code. -/
def firstLoop : Code → Option Code
  | .loop c => some (.loop c)
  | .seq a b => match firstLoop a with
    | some c => some c
    | none => firstLoop b
  | .block _ c => firstLoop c
  | .scope c => firstLoop c
  | .cond _ a b => match firstLoop a with
    | some c => some c
    | none => firstLoop b
  | _ => none
end Go.Proofs.Ytofbmpmefgapfaa
