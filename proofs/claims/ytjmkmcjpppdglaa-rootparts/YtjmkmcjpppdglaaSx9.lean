/- The symbolic walk is sound: a function: from what is to be shown of it to its contract. -/
import Derived.Test.YtjmkmcjpppdglaaSx8
namespace Go.Proofs.Ytjmkmcjpppdglaa.Sx
open Go.RowKit
section
variable {P : Program} {n : Nat} {W : World} {Γ : Gam} {s : St} {a : Act} {w : World} {β : Nat → Nat} {σ : Nat → Sl}

theorem entFr_look : ∀ (k : Nat) (xs : List SV) (t : Nat), lookN (entFr k xs) t = if t < k then none else xs[t - k]?
  | k, [], t => by simp [entFr, lookN]
  | k, x :: xs, t => by
    simp only [entFr, lookN, entFr_look (k + 1) xs t]
    by_cases h : t = k
    · subst h; simp
    · by_cases h2 : t < k
      · simp [h, h2, show t < k + 1 by omega]
      · simp [h, h2, show ¬ t < k + 1 by omega, show t - k = (t - (k + 1)) + 1 by omega]

theorem flat1_notTup {x : SV} (h : x.flat1 = true) : den β σ x = den1 β σ x ∧ x.labs = x.lab1 := by
  cases x <;> first | exact ⟨rfl, rfl⟩ | (simp [SV.flat1, SV.flat0] at h; done)

theorem entry_sim {xs : List SV} {vs : List Value} (hf : xs.all SV.flat1 = true) (hv : AllIs1 w xs vs) (hn : xs.length ≤ n) : Sim n w (St.of (entFr 0 xs) []) ⟨vs.toArray ++ Array.replicate (n - vs.toArray.size) undef, []⟩ w := by
  obtain ⟨e1, e2⟩ := flat1_all hf hv (fun _ => 0) (fun _ => default)
  have hlen : vs.length = xs.length := by rw [e1]; simp
  have hlook : ∀ t, lookN (entFr 0 xs) t = xs[t]? := fun t => by simp [entFr_look]
  refine ⟨fun _ => 0, fun _ => default, by simp [hlen]; omega, rfl, Below.refl _ _, fun t ht => ?_, fun t d hd => ?_, fun d T cs he => ?_, fun d => trivial, fun d d' b _ hw => by simp [St.of, St.fl, memOf, lookN, wblk] at hw⟩
  · simp only [St.of, St.fl, hlook] at ht ⊢
    cases hx : xs[t]? with
    | none => simp [hx] at ht
    | some x =>
      have hlt : t < xs.length := (List.getElem?_eq_some_iff.1 hx).1
      have hfx := (List.all_eq_true.1 hf) x (List.mem_of_getElem? hx)
      simp only [Option.getD_some, (flat1_notTup hfx).1]
      rw [Array.getElem?_append_left (by simp [hlen, hlt])]
      rw [e1]
      simp [hx]
  · simp only [St.of, St.fl, hlook] at hd
    cases hx : xs[t]? with
    | none => simp [hx, SV.labs, SV.lab1, SV.lab0] at hd
    | some x =>
      have hfx := (List.all_eq_true.1 hf) x (List.mem_of_getElem? hx)
      simp only [hx, Option.getD_some, (flat1_notTup hfx (β := fun _ => 0) (σ := fun _ => default)).2] at hd
      have := List.flatMap_eq_nil_iff.1 e2 x (List.mem_of_getElem? hx)
      rw [this] at hd; cases hd
  · simp [St.of, St.fl, memOf, lookN] at he

def resSem (tmps : Array Value) : ResultVar → Sem Value
  | .tmp t => pure (tmps.getD t undef)
  | .cell p t => do loadVar t (← asAddr (tmps.getD p undef))
theorem resV_run (hs : SimW n W s a w β σ) {r : ResultVar} {sr : SR} (hr : cRes P r = some sr) {v : SV} (hv : resV s sr = some v) (ha : (v.res1 s.mem).arg1 = true) :
    ∃ u, (resSem a.tmps r).run P w = .ok u w ∧ Is1 w (v.res1 s.mem) u := by
  obtain ⟨i1, i2⟩ := is1_of hs ha
  refine ⟨den β σ v, ?_, i1⟩
  cases r with
  | tmp t =>
    simp [cRes] at hr; subst hr
    simp only [resV, Option.some.injEq] at hv
    subst hv
    have := hs.fr t i2
    simp [resSem, this]
  | cell p t =>
    simp only [cRes, Option.map_eq_some_iff] at hr
    obtain ⟨k, hk, rfl⟩ := hr
    simp only [resV] at hv
    split at hv
    · rename_i d o hp
      split at hv
      · rename_i T cs hm
        have hh := hs.fr p (by rw [hp]; simp)
        rw [hp] at hh
        have h1 := (run_loadVar (P := P) hs hm hk hv).1
        have hh' : a.tmps.getD p undef = .pointer (some ⟨β d, o, none⟩) := by simp [hh, den, den1, den0]
        simp only [resSem, hh', asAddr, Sem.run_bind, Sem.run_pure, Result.andThen_ok, h1]
      · cases hv
    · cases hv
theorem results_mapM (hs : SimW n W s a w β σ) : ∀ (rs : List ResultVar) (srs : List SR) (vs : List SV), rs.mapM (cRes P) = some srs → resL s srs = some vs → (vs.map (SV.res1 s.mem)).all SV.arg1 = true →
    ∃ us : List Value, (rs.mapM (resSem a.tmps)).run P w = .ok us w ∧ AllIs1 w (vs.map (SV.res1 s.mem)) us
  | [], srs, vs, h1, h2, _ => by
    simp at h1; subst h1; simp [resL] at h2; subst h2
    exact ⟨[], by simp, trivial⟩
  | r :: rs, srs, vs, h1, h2, h3 => by
    simp only [List.mapM_cons, Option.bind_eq_bind, Option.pure_def, Option.bind_eq_some_iff] at h1
    obtain ⟨sr, hr, srs', hrs, he⟩ := h1
    simp only [Option.some.injEq] at he
    subst he
    simp only [resL] at h2
    split at h2
    case h_2 => cases h2
    rename_i v vs' hv hvs
    simp only [Option.some.injEq] at h2
    subst h2
    simp only [List.map_cons, List.all_cons, Bool.and_eq_true] at h3
    obtain ⟨u, hu, hi⟩ := resV_run (P := P) hs hr hv h3.1
    obtain ⟨us, hus, his⟩ := results_mapM hs rs srs' vs' hrs hvs h3.2
    refine ⟨u :: us, ?_, hi, his⟩
    rw [List.mapM_cons, Sem.run_bind, hu, Result.andThen_ok, Sem.run_bind, hus]
    rfl
theorem results_run (hs : SimW n W s a w β σ) {fn : Func} {srs : List SR} (h1 : fn.results.toList.mapM (cRes P) = some srs) {v : SV} (h2 : resAll s srs = some v) : ∃ u, (results fn a.tmps).run P w = .ok u w ∧ Is w v u := by
  unfold resAll at h2
  split at h2
  · rename_i vs hvs
    split at h2
    · rename_i hall
      obtain ⟨us, hrun, his⟩ := results_mapM (P := P) hs fn.results.toList srs vs h1 hvs hall
      generalize vs.map (SV.res1 s.mem) = ws at *
      have hr : (results fn a.tmps).run P w = .ok (if h : us.toArray.size = 1 then us.toArray[0] else .tuple us.toArray) w := by
        have hdef : results fn a.tmps = (do let vs ← fn.results.mapM (resSem a.tmps); pure (if h : vs.size = 1 then vs[0] else .tuple vs)) := rfl
        rw [hdef, Sem.run_bind, Array.mapM_eq_mapM_toList, Sem.run_map]
        rw [hrun]
        rfl
      refine ⟨_, hr, ?_⟩
      split at h2
      · rename_i v'
        simp only [Option.some.injEq] at h2
        subst h2
        match us, his with
        | [u], his =>
          have := his.1
          simp only [List.size_toArray, List.length_singleton, dite_true]
          have hg := (List.all_eq_true.1 hall) v' (by simp)
          cases v' <;> first | exact this | (simp [SV.arg1, SV.arg0] at hg; done)
        | u :: u' :: us, his => exact his.2.elim
      · rename_i hne
        simp only [Option.some.injEq] at h2
        subst h2
        have hl : us.toArray.size ≠ 1 := fun hl => by
          match us, ws, his with
          | [u], [x], his => exact hne x rfl
          | [u], x :: x' :: xs, his => exact his.2.elim
        rw [dif_neg hl]
        exact ⟨us, rfl, his⟩
    · cases h2
  · cases h2

/-- **A function's contract.** -/
theorem fun_sound (hΓ : GamOk P Γ) (hm : P.follows .mixedOrders = true) {f : Nat} {F : SF} (hF : cFunc P f = some F) {xs : List SV} {R : SV → Prop} (hv : vcFun Γ F xs R) (hflat : xs.all SV.flat1 = true) (hn : xs.length ≤ F.n) (w : World) (vs : List Value) (hvs : AllIs1 w xs vs) :
    Calls P f vs.toArray w fun e w' => Below w.heap.size w w' ∧ ∃ r v, R r ∧ e = .returned v ∧ Is w' r v := by
  unfold cFunc at hF
  split at hF
  · rename_i fn hfn
    split at hF
    · rename_i c hc
      split at hF
      · rename_i b0 rs hb0 hrs
        split at hF
        case h_2 => cases hF
        rename_i b hb
        simp only [Option.some.injEq] at hF
        subst hF
        refine calls_of_wp hfn hc ?_
        refine vc_sound (W := w) hΓ hm c b hb _ _ _ _ _ hv (entry_sim hflat hvs hn) fun e t a' w' hk hs' => ?_
        obtain ⟨β, σ, hs0⟩ := hs'
        have hend : vcRet R rs t → a'.defers = [] ∧ ∃ v, (results fn a'.tmps).run P w' = .ok v w' ∧ (Below w.heap.size w w' ∧ ∃ r v', R r ∧ Ending.returned v = .returned v' ∧ Is w' r v') := fun hret => by
          unfold vcRet at hret
          split at hret
          · rename_i r hr
            obtain ⟨u, hu, hi⟩ := results_run (P := P) hs0 hrs hr
            exact ⟨hs0.defers, u, hu, hs0.bel, r, u, hret, rfl, hi⟩
          · exact hret.elim
        cases e with
        | normal => exact hend hk
        | ret => exact hend hk
        | exit i => exact hk.elim
      · cases hF
    · cases hF
  · cases hF
end
/-! ### For the reckoning -/
theorem fr_put (s : St) (d : Nat) (v : SV) (t : Nat) : (s.put (some d) v).fr t = if t = d then v else s.fr t := rfl
theorem put_none (s : St) (v : SV) : (s.put none v) = s := rfl
theorem mem_put' (s : St) (d : Nat) (v : SV) : (s.put (some d) v).mem = s.mem := rfl
theorem fr_setm (s : St) (d : Nat) (c : Cel) (t : Nat) : (s.setm d c).fr t = s.fr t := rfl
theorem mem_setm (s : St) (d : Nat) (c : Cel) : (s.setm d c).mem = setM s.mem d c := rfl
theorem setM_at (m : Nat → Cel) (d : Nat) (c : Cel) (t : Nat) : setM m d c t = if t = d then c else m t := rfl
theorem fr_fl (fr : List (Nat × SV)) (m : Nat → Cel) (t : Nat) : (St.fl fr m).fr t = (lookN fr t).getD .unk := rfl
theorem mem_fl (fr : List (Nat × SV)) (m : Nat → Cel) : (St.fl fr m).mem = m := rfl
theorem memOf_at (l : List (Nat × Cel)) (t : Nat) : memOf l t = (lookN l t).getD .fresh := rfl
theorem bool_inj (a b : Bool) : (SV.bool a = SV.bool b) = (a = b) := by simp
end Go.Proofs.Ytjmkmcjpppdglaa.Sx
