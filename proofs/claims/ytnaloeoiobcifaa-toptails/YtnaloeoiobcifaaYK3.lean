/- The sayings of stage 3 in one list; values. -/
import Derived.Test.YtnaloeoiobcifaaYS3
import Derived.Test.YtnaloeoiobcifaaYM3
namespace Go.Proofs.Ytnaloeoiobcifaa
open Go.RowKit Y
theorem valsL_ok (l : List Int) : listE (valsL l) = 0 := by
  rw [listE_0]
  refine ⟨by simp [valsL]; omega, fun x hx => ?_⟩
  simp only [valsL, List.mem_map] at hx
  obtain ⟨y, _, rfl⟩ := hx
  have := withinN_lt y (n := 16777217) (by omega)
  omega
theorem ofV_0 {l : List Int} (h : listE l = 0) : ofV l = sv3 l.length (sumL l) (sqL l) := by simp [ofV, h]
def gk : List (Nat × Say) := [(44, begunS), (45, valuesS), (46, withinS), (48, sumsS), (70, spreadXS)]
theorem gk_ok : GamOk Try.prog (gamY gk) := gam_ok (gam_cons begun_ok (gam_cons values_ok (gam_cons within_ok (gam_cons sums_ok (gam_cons spreadX_ok gam_nil)))))
end Go.Proofs.Ytnaloeoiobcifaa
