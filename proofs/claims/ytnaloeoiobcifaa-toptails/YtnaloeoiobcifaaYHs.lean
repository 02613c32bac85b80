/- Arrays of whole numbers in structs: their cells as a list. -/
import Derived.Test.YtnaloeoiobcifaaYG
namespace Go.Proofs.Ytnaloeoiobcifaa
open Go.RowKit Y
set_option linter.unusedVariables false
def hC (l : List Int) : List SV := l.map (.int .i64)
theorem hC_len (l : List Int) : (hC l).length = l.length := by simp [hC]
theorem hC_take {l : List Int} (h : l.length = 26) : List.take 26 (hC l) = hC l := by
  rw [List.take_of_length_le (by rw [hC_len]; omega)]
theorem hC_get {l : List Int} {i : Nat} (h : i < l.length) : (hC l)[i]? = some (.int .i64 (l.getD i 0)) := by
  simp [hC, List.getD_eq_getElem?_getD, List.getElem?_eq_getElem h]
theorem hC_all (p : SV → Bool) (hp : ∀ n, p (.int .i64 n) = true) (l : List Int) : (hC l).all p = true := by
  rw [List.all_eq_true]
  intro x hx
  obtain ⟨n, _, rfl⟩ := List.mem_map.1 hx
  exact hp n
theorem hC_map (f : SV → SV) (hf : ∀ n, f (.int .i64 n) = .int .i64 n) (l : List Int) : (hC l).map f = hC l := by
  simp only [hC, List.map_map]
  exact List.map_congr_left fun n _ => hf n
theorem hC_one (l : List Int) : (hC l).all SV.one = true := hC_all _ (fun _ => rfl) l
theorem hC_ok (l : List Int) : (hC l).all SV.ok0 = true := hC_all _ (fun _ => rfl) l
theorem hC_solid (l : List Int) : (hC l).all SV.solid0 = true := hC_all _ (fun _ => rfl) l
theorem hC_np (l : List Int) : (hC l).all SV.noPtr0 = true := hC_all _ (fun _ => rfl) l
theorem hC_res (m : Nat → Cel) (l : List Int) : (hC l).map (SV.res0 m) = hC l := hC_map _ (fun _ => rfl) l
theorem hC_go (m : Nat → Cel) (l : List Int) : (hC l).map (SV.go0 m) = hC l := hC_map _ (fun _ => rfl) l
theorem hC_nm (k : Nat) (l : List Int) : (hC l).map (SV.nm0 k) = hC l := hC_map _ (fun _ => rfl) l
theorem hC_labs : ∀ l : List Int, labsL (hC l) = []
  | [] => rfl
  | x :: l => by
    have := hC_labs l
    simp only [hC, List.map_cons, labsL, SV.labs] at this ⊢
    rw [this]; rfl
theorem hC_own (m : Nat → Cel) : ∀ l : List Int, (hC l).flatMap (own0 m) = []
  | [] => rfl
  | x :: l => by
    have := hC_own m l
    simp only [hC, List.map_cons, List.flatMap_cons, own0] at this ⊢
    rw [this]; rfl
theorem hC_set (l : List Int) (i : Nat) (x : Int) : (hC l).set i (.int .i64 x) = hC (l.set i x) := by simp [hC, List.map_set]
theorem setAt_over : ∀ (vs pre cs : List SV) , cs.length = vs.length → setAt (pre ++ cs) pre.length vs = pre ++ vs
  | [], pre, cs, h => by
    have : cs = [] := List.eq_nil_of_length_eq_zero (by simpa using h)
    simp [setAt, this]
  | v :: vs, pre, [], h => by simp at h
  | v :: vs, pre, c :: cs, h => by
    have := setAt_over vs (pre ++ [v]) cs (by simpa using h)
    rw [setAt]
    simpa using this
theorem hC_over {cs : List SV} {l : List Int} (h1 : cs.length = 26) (h2 : l.length = 26) : setAt cs 0 (hC l) = hC l := by
  have := setAt_over (hC l) [] cs (by rw [hC_len, h1, h2])
  simpa using this
theorem hC_fitR (l : List Int) : fitRL (hC l) (hC l) = True := eq_true (fit_reflL _)
theorem hC_fitL (s : St) (M : List (Nat × Cel)) : ∀ l : List Int, fitL s M (hC l) (hC l) = True
  | [] => rfl
  | x :: l => by
    have := hC_fitL s M l
    simp only [hC, List.map_cons, fitL, fit0] at this ⊢
    simpa using this
def zL : List Int := List.replicate 26 0
theorem zL_len : zL.length = 26 := by simp [zL]
theorem hZ : [SV.int .i64 0, .int .i64 0, .int .i64 0, .int .i64 0, .int .i64 0, .int .i64 0, .int .i64 0, .int .i64 0, .int .i64 0, .int .i64 0, .int .i64 0, .int .i64 0, .int .i64 0, .int .i64 0, .int .i64 0, .int .i64 0, .int .i64 0, .int .i64 0, .int .i64 0, .int .i64 0, .int .i64 0, .int .i64 0, .int .i64 0, .int .i64 0, .int .i64 0, .int .i64 0] = hC zL := rfl
def asH (cs : List SV) : Option (List Int) := match intsOf .i64 cs with
  | some l => if l.length = 26 then some l else none
  | none => none
theorem intsOf_hC : ∀ l : List Int, intsOf .i64 (hC l) = some l
  | [] => rfl
  | x :: l => by
    have := intsOf_hC l
    simp only [hC, List.map_cons, intsOf, if_true] at this ⊢
    rw [this]; rfl
theorem of_intsOf : ∀ {cs : List SV} {l : List Int}, intsOf .i64 cs = some l → cs = hC l
  | [], l, h => by simp [intsOf] at h; subst h; rfl
  | c :: cs, l, h => by
    cases c <;> simp [intsOf] at h
    obtain ⟨rfl, l', h1, rfl⟩ := h
    rw [of_intsOf h1]; rfl
theorem asH_hC {l : List Int} (h : l.length = 26) : asH (hC l) = some l := by
  unfold asH; rw [intsOf_hC]; exact if_pos h
theorem asH_len {cs : List SV} {l : List Int} (h : asH cs = some l) : l.length = 26 := by
  unfold asH at h
  split at h
  · split at h
    · simp only [Option.some.injEq] at h; subst h; assumption
    · cases h
  · cases h
theorem asH_fit {cs : List SV} {l : List Int} (h : asH cs = some l) : fitR1 (.agg cs) (.agg (hC l)) := by
  unfold asH at h
  split at h
  · rename_i l' h'
    split at h
    · simp only [Option.some.injEq] at h; subst h
      rw [of_intsOf h']
      exact fit_refl_agg _
    · cases h
  · cases h
end Go.Proofs.Ytnaloeoiobcifaa
