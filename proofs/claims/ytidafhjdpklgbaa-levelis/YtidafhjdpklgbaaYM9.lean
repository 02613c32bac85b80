/- Cantelli's and Samuelson's inequalities, of no program. -/
import Derived.Test.YtidafhjdpklgbaaYM5
import Derived.Test.YtidafhjdpklgbaaYT5
namespace Go.Proofs.Ytidafhjdpklgbaa
open Go.ChangeShapes Go.WideShapes Go.ChangeAt Go.RowKit Go.Joins Y
set_option linter.unusedSimpArgs false
set_option linter.unusedVariables false
set_option maxRecDepth 100000
set_option maxHeartbeats 40000000
theorem sumL_split (p q : List Int) (x : Int) : sumL (p ++ x :: q) = sumL (p ++ q) + x := by simp [sumL]; omega
theorem sqL_split (p q : List Int) (x : Int) : sqL (p ++ x :: q) = sqL (p ++ q) + x * x := by simp [sqL]; omega
theorem samuelson {l : List Int} {x : Int} (hx : x ∈ l) : (l.length * x - sumL l) * (l.length * x - sumL l) ≤ (l.length - 1) * (l.length * sqL l - sumL l * sumL l) := by
  obtain ⟨p, q, rfl⟩ := List.append_of_mem hx
  have h := pairL_nonneg (p ++ q)
  rw [← lagrange] at h
  rw [sumL_split, sqL_split]
  have hL : ((p ++ x :: q).length : Int) = (p ++ q).length + 1 := by simp; omega
  rw [hL]
  generalize sumL (p ++ q) = A at *
  generalize sqL (p ++ q) = B at *
  have hn : (0 : Int) ≤ (p ++ q).length := by omega
  generalize ((p ++ q).length : Int) = n at *
  have h2 := Int.mul_nonneg (show 0 ≤ n + 1 by omega) h
  grind
theorem cantelli_le {l : List Int} {t : Int} (hD : 0 < l.length * t - sumL l) : (cntL l t : Int) * ((l.length * t - sumL l) * (l.length * t - sumL l) + (l.length * sqL l - sumL l * sumL l)) ≤ l.length * (l.length * sqL l - sumL l * sumL l) := by
  have hG := pairL_nonneg l
  rw [← lagrange] at hG
  generalize hGG : l.length * sqL l - sumL l * sumL l = G at *
  generalize hDD : l.length * t - sumL l = D at *
  have hV : 0 < D * D + G := by have := Int.mul_pos hD hD; omega
  have h := cnt_gen (p := fun x => decide (t ≤ x)) (f := fun x => ((l.length * x - sumL l) * D + G) * ((l.length * x - sumL l) * D + G)) (B := (D * D + G) * (D * D + G)) (l := l) fun x hx => ⟨sq_nonneg _, fun hp => by
    simp only [decide_eq_true_eq] at hp
    have h1 : D ≤ l.length * x - sumL l := by
      have := Int.mul_le_mul_of_nonneg_left hp (show (0 : Int) ≤ l.length by omega)
      omega
    have h2 := Int.mul_le_mul_of_nonneg_right h1 (show 0 ≤ D by omega)
    exact Int.mul_le_mul (by omega) (by omega) (by omega) (by omega)⟩
  rw [sum_lin (fun x => ((l.length * x - sumL l) * D + G) * ((l.length * x - sumL l) * D + G)) (l.length * l.length * D * D) (2 * l.length * D * (G - sumL l * D)) ((G - sumL l * D) * (G - sumL l * D)) (fun x => by grind)] at h
  refine Int.le_of_mul_le_mul_left (a := D * D + G) ?_ hV
  have hc : (l.countP (fun x => decide (t ≤ x)) : Int) = cntL l t := rfl
  rw [hc] at h
  clear hc hD hDD hV
  generalize (cntL l t : Int) = C at *
  generalize sumL l = S at *
  generalize sqL l = Q at *
  generalize (l.length : Int) = L at *
  subst hGG
  grind
end Go.Proofs.Ytidafhjdpklgbaa
