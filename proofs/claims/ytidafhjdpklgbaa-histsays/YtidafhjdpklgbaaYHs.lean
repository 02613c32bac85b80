/- Arrays of whole numbers in structs: their cells as a list. -/
import Derived.Test.YtidafhjdpklgbaaYG
namespace Go.Proofs.Ytidafhjdpklgbaa
open Go.ChangeShapes Go.WideShapes Go.ChangeAt Go.RowKit Go.Joins Y
set_option linter.unusedVariables false
set_option linter.unusedSimpArgs false
def hC (l : List Int) : List SV := l.map (.int .i64)
theorem hC_len (l : List Int) : (hC l).length = l.length := by simp [hC]
theorem hC_take {l : List Int} (h : l.length = 26) : List.take 26 (hC l) = hC l := by
  rw [List.take_of_length_le (by rw [hC_len]; omega)]
theorem hC_get {l : List Int} {i : Nat} (h : i < l.length) : (hC l)[i]? = some (.int .i64 (l.getD i 0)) := by
  simp [hC, List.getD_eq_getElem?_getD, List.getElem?_eq_getElem h]
theorem hC_all (p : SV → Bool) (hp : ∀ n, p (.int .i64 n) = true) (l : List Int) : (hC l).all p = true := by
  rw [List.all_eq_true]
  intro x hx
  obtain ⟨n, _, rfl⟩ := List.mem_map.1 hx
  exact hp n
theorem hC_map (f : SV → SV) (hf : ∀ n, f (.int .i64 n) = .int .i64 n) (l : List Int) : (hC l).map f = hC l := by
  simp only [hC, List.map_map]
  exact List.map_congr_left fun n _ => hf n
theorem hC_one (l : List Int) : (hC l).all SV.one = true := hC_all _ (fun _ => rfl) l
theorem hC_ok (l : List Int) : (hC l).all SV.ok0 = true := hC_all _ (fun _ => rfl) l
theorem hC_solid (l : List Int) : (hC l).all SV.solid0 = true := hC_all _ (fun _ => rfl) l
theorem hC_np (l : List Int) : (hC l).all SV.noPtr0 = true := hC_all _ (fun _ => rfl) l
theorem hC_res (m : Nat → Cel) (l : List Int) : (hC l).map (SV.res0 m) = hC l := hC_map _ (fun _ => rfl) l
theorem hC_go (m : Nat → Cel) (l : List Int) : (hC l).map (SV.go0 m) = hC l := hC_map _ (fun _ => rfl) l
theorem hC_nm (k : Nat) (l : List Int) : (hC l).map (SV.nm0 k) = hC l := hC_map _ (fun _ => rfl) l
theorem hC_labs : ∀ l : List Int, labsL (hC l) = []
  | [] => rfl
  | x :: l => by
    have := hC_labs l
    simp only [hC, List.map_cons, labsL, SV.labs] at this ⊢
    rw [this]; rfl
theorem hC_own (m : Nat → Cel) : ∀ l : List Int, (hC l).flatMap (own0 m) = []
  | [] => rfl
  | x :: l => by
    have := hC_own m l
    simp only [hC, List.map_cons, List.flatMap_cons, own0] at this ⊢
    rw [this]; rfl
theorem hC_set (l : List Int) (i : Nat) (x : Int) : (hC l).set i (.int .i64 x) = hC (l.set i x) := by simp [hC, List.map_set]
theorem setAt_over : ∀ (vs pre cs : List SV) , cs.length = vs.length → setAt (pre ++ cs) pre.length vs = pre ++ vs
  | [], pre, cs, h => by
    have : cs = [] := List.eq_nil_of_length_eq_zero (by simpa using h)
    simp [setAt, this]
  | v :: vs, pre, [], h => by simp at h
  | v :: vs, pre, c :: cs, h => by
    have := setAt_over vs (pre ++ [v]) cs (by simpa using h)
    rw [setAt]
    simpa using this
theorem hC_over {cs : List SV} {l : List Int} (h1 : cs.length = 26) (h2 : l.length = 26) : setAt cs 0 (hC l) = hC l := by
  have := setAt_over (hC l) [] cs (by rw [hC_len, h1, h2])
  simpa using this
theorem hC_fitR (l : List Int) : fitRL (hC l) (hC l) = True := eq_true (fit_reflL _)
theorem hC_fitL (s : St) (M : List (Nat × Cel)) : ∀ l : List Int, fitL s M (hC l) (hC l) = True
  | [] => rfl
  | x :: l => by
    have := hC_fitL s M l
    simp only [hC, List.map_cons, fitL, fit0] at this ⊢
    simpa using this
def zL : List Int := List.replicate 26 0
theorem zL_len : zL.length = 26 := by simp [zL]
theorem hZ : [SV.int .i64 0, .int .i64 0, .int .i64 0, .int .i64 0, .int .i64 0, .int .i64 0, .int .i64 0, .int .i64 0, .int .i64 0, .int .i64 0, .int .i64 0, .int .i64 0, .int .i64 0, .int .i64 0, .int .i64 0, .int .i64 0, .int .i64 0, .int .i64 0, .int .i64 0, .int .i64 0, .int .i64 0, .int .i64 0, .int .i64 0, .int .i64 0, .int .i64 0, .int .i64 0] = hC zL := rfl
def asH (cs : List SV) : Option (List Int) := match intsOf .i64 cs with
  | some l => if l.length = 26 then some l else none
  | none => none
theorem intsOf_hC : ∀ l : List Int, intsOf .i64 (hC l) = some l
  | [] => rfl
  | x :: l => by
    have := intsOf_hC l
    simp only [hC, List.map_cons, intsOf, if_true] at this ⊢
    rw [this]; rfl
theorem of_intsOf : ∀ {cs : List SV} {l : List Int}, intsOf .i64 cs = some l → cs = hC l
  | [], l, h => by simp [intsOf] at h; subst h; rfl
  | c :: cs, l, h => by
    cases c <;> simp [intsOf] at h
    obtain ⟨rfl, l', h1, rfl⟩ := h
    rw [of_intsOf h1]; rfl
theorem asH_hC {l : List Int} (h : l.length = 26) : asH (hC l) = some l := by
  unfold asH; rw [intsOf_hC]; exact if_pos h
theorem asH_len {cs : List SV} {l : List Int} (h : asH cs = some l) : l.length = 26 := by
  unfold asH at h
  split at h
  · split at h
    · simp only [Option.some.injEq] at h; subst h; assumption
    · cases h
  · cases h
theorem asH_fit {cs : List SV} {l : List Int} (h : asH cs = some l) : fitR1 (.agg cs) (.agg (hC l)) := by
  unfold asH at h
  split at h
  · rename_i l' h'
    split at h
    · simp only [Option.some.injEq] at h; subst h
      rw [of_intsOf h']
      exact fit_refl_agg _
    · cases h
  · cases h
/-! Histograms among a law's arguments. -/
def unI : Value → Int
  | .int _ n => n
  | _ => 0
theorem open_hist {H : Type} {enc : TypeId × Value → H} {W : World} {base : Nat} {spare : Nat → Bool} {held : Bool} {P : Program} {r : Reach} {b0 : Nat} {t e : TypeId} {f0 : Field} {n : Nat} {v : Value} {d : DataW H} {p : List MemPlace}
    (hs : P.underlying t = some (.struct #[f0])) (h0 : f0.offset = 0) (ha : P.underlying f0.type = some (.array n e)) (he : P.underlying e = some (.int .i64)) (hC : P.cellsOf t = n) (hCa : P.cellsOf f0.type = n) (hCe : P.cellsOf e = 1)
    (hv : Value.okWide P W r b0 t v) (h : DataW.Trod enc P W base spare held t v d p) :
    ∃ l : List Int, v = .agg (l.map (Value.int .i64)).toArray ∧ l.length = n ∧ AllI l := by
  obtain ⟨cs, rfl, hsz⟩ := okWide_struct hs hv
  obtain ⟨fuel, hf⟩ := h
  obtain ⟨y0, m, hx, hl, h1⟩ := trod_struct1 hs hf
  have hlen : cs.toList.length = n := by rw [Array.length_toList, hsz, hC]
  rw [h0, hCa] at h1
  have hcs : ((Value.agg cs).cells.toList.drop 0).take n = cs.toList := by
    simp only [Value.cells, List.drop_zero]
    exact List.take_of_length_le (by omega)
  rw [hcs] at h1
  obtain ⟨xs, m2, _, _, _, hxl, hget⟩ := DataW.trod_array ha h1
  have key : ∀ i, i < n → ∃ a : Int, cs.toList[i]? = some (.int .i64 a) ∧ I64 a := fun i hi => by
    have h2 := hget i hi
    rw [hCe, Nat.mul_one] at h2
    have h3 : (cs.toList.drop i).take 1 = [cs.toList[i]'(by omega)] := by
      rw [List.drop_eq_getElem_cons (by omega)]; rfl
    rw [h3] at h2
    have h4 : i < xs.length := by omega
    rw [List.getElem?_eq_getElem h4] at h2
    obtain ⟨a, ea, _, wa⟩ := DataW.trod_int he h2
    simp only [List.cons.injEq, and_true] at ea
    exact ⟨a, by rw [List.getElem?_eq_getElem (by omega), ea], i64_of wa⟩
  refine ⟨cs.toList.map unI, ?_, by rw [List.length_map]; exact hlen, ?_⟩
  · congr 1
    rw [← Array.toArray_toList (xs := cs)]
    congr 1
    rw [List.map_map]
    refine List.ext_getElem (by simp) fun i h1 h2 => ?_
    obtain ⟨a, ea, _⟩ := key i (by omega)
    rw [List.getElem?_eq_getElem (by omega)] at ea
    simp only [Option.some.injEq] at ea
    simp only [List.getElem_map, Function.comp, ea, unI]
  · intro x hx
    obtain ⟨u, hu, rfl⟩ := List.mem_map.1 hx
    obtain ⟨i, hi, rfl⟩ := List.getElem_of_mem hu
    obtain ⟨a, ea, wa⟩ := key i (by omega)
    rw [List.getElem?_eq_getElem (by omega)] at ea
    simp only [Option.some.injEq] at ea
    rw [ea]; exact wa
theorem is_hC {E : Env} (l : List Int) : Is E (.agg (hC l)) (.agg (l.map (Value.int .i64)).toArray) :=
  .agg _ _ (by simp [hC]) fun j x u hx hu => by
    simp only [hC, List.getElem?_map] at hx hu
    cases hj : l[j]? with
    | none => simp [hj] at hx
    | some n => simp [hj] at hx hu; subst hx hu; exact .int _ _
end Go.Proofs.Ytidafhjdpklgbaa
