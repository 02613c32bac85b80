/- What every law's last step uses: the program's own facts, and the numbers that two words are. -/
import Derived.Test.YtofbmpmefgapfaaRows
import Derived.Test.YtofbmpmefgapfaaPlain
import Derived.Test.YtofbmpmefgapfaaMem
import Derived.ProofKit
import Derived.OpenShut
import Derived.ShutString
import Derived.ChangeOld
import Derived.Below
import Derived.Lib.SmallJoins
namespace Go.Proofs.Ytofbmpmefgapfaa
open Go.ChangeShapes Go.WideShapes Go.ChangeAt Go.RowKit
theorem law_own : ownKnob Try.prog.godebug = none := by kernel_rfl
theorem law_laid : laidOutB Try.prog = true := by kernel_rfl
theorem law_cells : Try.prog.cellsOf 24 = 2 := by kernel_rfl
theorem isW_of {x t : Int} (hx : (Lit.int .u64 x).wf = true) (ht : (Lit.int .u64 t).wf = true) : ∃ a, IsW a x t := by
  have b := bounds_u64 hx
  have c := bounds_u64 ht
  obtain ⟨n, rfl⟩ := Int.eq_ofNat_of_zero_le b.1
  obtain ⟨m, rfl⟩ := Int.eq_ofNat_of_zero_le c.1
  exact ⟨_, isW_mk n m (by omega) (by omega)⟩
theorem word_of {x : Int} (hx : (Lit.int .u64 x).wf = true) : ∃ u : Nat, x = (u : Int) ∧ Word u := by
  have b := bounds_u64 hx
  obtain ⟨n, rfl⟩ := Int.eq_ofNat_of_zero_le b.1
  exact ⟨n, rfl, by unfold Word; omega⟩
theorem wide_reads {H : Type} {enc : TypeId × Value → H} {W : World} {base : Nat} {sp : Nat → Bool} {held : Bool} {x t : Int} (wx : (Lit.int .u64 x).wf = true) (wt : (Lit.int .u64 t).wf = true) :
    DataW.Trod enc Try.prog W base sp held 24 (.agg #[.int .u64 x, .int .u64 t]) (.agg [.lit (.int .u64 x), .lit (.int .u64 t)]) [] :=
  Joins.shut_agg2 (y0 := (.lit (.int .u64 x), [])) (y1 := (.lit (.int .u64 t), [])) Try.underlying24 (by kernel_rfl) law_cells ⟨1, by simp [DataW.trod, Try.underlying22, wx]⟩ ⟨1, by simp [DataW.trod, Try.underlying22, wt]⟩
end Go.Proofs.Ytofbmpmefgapfaa
