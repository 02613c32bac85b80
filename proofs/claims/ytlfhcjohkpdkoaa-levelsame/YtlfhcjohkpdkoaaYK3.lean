/- The sayings of stage 3 in one list; values. -/
import Derived.Test.YtlfhcjohkpdkoaaYS3
import Derived.Test.YtlfhcjohkpdkoaaYM3
namespace Go.Proofs.Ytlfhcjohkpdkoaa
open Go.RowKit Y
theorem valsL_ok (l : List Int) : listE (valsL l) = 0 := by
  rw [listE_0]
  refine ⟨by simp [valsL]; omega, fun x hx => ?_⟩
  simp only [valsL, List.mem_map] at hx
  obtain ⟨y, _, rfl⟩ := hx
  have := withinN_lt y (n := 16777217) (by omega)
  omega
theorem ofV_0 {l : List Int} (h : listE l = 0) : ofV l = sv3 l.length (sumL l) (sqL l) := by simp [ofV, h]
end Go.Proofs.Ytlfhcjohkpdkoaa
