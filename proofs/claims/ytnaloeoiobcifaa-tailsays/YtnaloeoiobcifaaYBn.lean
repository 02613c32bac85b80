/- hwref.Num and the statements' same: bits as a number. -/
import Derived.Test.YtnaloeoiobcifaaYBt
namespace Go.Proofs.Ytnaloeoiobcifaa
open Go.ChangeShapes Go.WideShapes Go.ChangeAt Go.RowKit Go.Joins Y
set_option linter.unusedSimpArgs false
set_option linter.unusedVariables false
set_option maxRecDepth 100000
set_option maxHeartbeats 40000000
theorem valL_append (b : List Bool) : ∀ a : List Bool, valL (a ++ b) = valL a + 2 ^ a.length * valL b
  | [] => by simp [valL]
  | c :: a => by
    rw [List.cons_append, valL, valL_append b a, valL, List.length_cons, Nat.pow_succ, Nat.mul_add, Nat.mul_comm (2 ^ a.length) 2, Nat.mul_assoc]; omega
theorem valL_take (l : List Bool) (k : Nat) : valL (l.take k) ≤ valL l := by
  have h := valL_append (l.drop k) (l.take k)
  rw [List.take_append_drop] at h; omega
theorem valL_snoc' {l : List Bool} {i : Nat} (h : i < l.length) : valL (l.take (i + 1)) = valL (l.take i) + (if l.getD i false = true then 1 else 0) * 2 ^ i := by
  have e : l.take (i + 1) = l.take i ++ [l.getD i false] := by
    rw [List.take_add_one, List.getElem?_eq_getElem h, List.getD_eq_getElem?_getD, List.getElem?_eq_getElem h]; rfl
  rw [e, valL_snoc, List.length_take, Nat.min_eq_left (by omega)]
theorem hi_up (v j : Nat) : hiN (v + 18446744073709551616 * j) = hiN v + j ∧ loN (v + 18446744073709551616 * j) = loN v := by
  unfold hiN loN; omega
def numN (l : List Bool) : Nat := if valL l < 340282366920938463463374607431768211456 then valL l else 0
def gSm : List (Nat × Say) := []
theorem gSm_ok : GamOk Try.prog (gamY gSm) := gam_ok gam_nil
def sameB (a : Nat) (e : Int) (v : Nat) : Bool := if v < 340282366920938463463374607431768211456 then decide (e = 0 ∧ a = v) else decide (e = 2 ∧ a = 0)
end Go.Proofs.Ytnaloeoiobcifaa
