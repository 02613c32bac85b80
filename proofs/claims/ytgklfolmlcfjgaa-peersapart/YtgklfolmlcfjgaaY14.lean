/- The second walk is sound: a function: from what is to be shown of it to its contract. -/
import Derived.Test.YtgklfolmlcfjgaaY13
namespace Go.Proofs.Ytgklfolmlcfjgaa.Y
open Go.RowKit
set_option linter.unusedSimpArgs false
set_option linter.unusedVariables false
section
variable {P : Program} {n : Nat} {W : Wd} {A0 : Nat → Prop} {Γ : Gam} {s : St} {a : Act} {w : World} {β : Nat → Nat} {σ : Nat → Sl}

theorem entFr_look : ∀ (k : Nat) (xs : List SV) (t : Nat), lookN (entFr k xs) t = if t < k then none else xs[t - k]?
  | k, [], t => by simp [entFr, lookN]
  | k, x :: xs, t => by
    simp only [entFr, lookN, entFr_look (k + 1) xs t]
    by_cases h : t = k
    · subst h; simp
    · by_cases h2 : t < k
      · simp [h, h2, show t < k + 1 by omega]
      · simp [h, h2, show ¬ t < k + 1 by omega, show t - k = (t - (k + 1)) + 1 by omega]
theorem entry_sim {xs : List SV} {vs : List Value} (hlow : (∀ b, A0 b → b < w.heap.size) ∧ GlbW w) (hv : All (E0 w A0) xs vs) (hn : xs.length ≤ n) : Sim n ⟨w, fun _ => False, fun _ => none⟩ A0 (St.of (entFr 0 xs) []) ⟨vs.toArray ++ Array.replicate (n - vs.toArray.size) undef, []⟩ w := by
  have hlook : ∀ t, lookN (entFr 0 xs) t = xs[t]? := fun t => by simp [entFr_look]
  have hfresh : ∀ d, (St.of (entFr 0 xs) []).mem d = .fresh := fun d => by simp [St.of, St.fl, memOf, lookN]
  have hle : (E0 w A0).le (env A0 (St.of (entFr 0 xs) []) w (fun _ => 0) (fun _ => default)) (fun _ => True) := by
    refine ⟨fun d c _ h => (by cases h), fun b _ h2 => ⟨rfl, ?_⟩, Nat.le_refl _⟩
    rintro (h | ⟨d, hd⟩)
    · exact h2 h
    · rw [hfresh d] at hd; simp [wblk] at hd
  refine ⟨fun _ => 0, fun _ => default, ⟨by have := hv.1; simp [this]; omega, fun _ _ h => by cases h⟩, rfl, ⟨rfl, rfl, rfl, Nat.le_refl _, fun _ _ _ => rfl⟩, fun t ht => ?_, fun d => by rw [hfresh d]; trivial, fun d d' b _ hw => by rw [hfresh d] at hw; simp [wblk] at hw, fun b hb => ⟨hlow.1 b hb, fun h => h⟩, hlow.2, fun _ _ h => h⟩
  cases hx : xs[t]? with
  | none => simp [St.of, St.fl, hlook, hx] at ht
  | some x =>
    have hfr : (St.of (entFr 0 xs) []).fr t = x := by simp [St.of, St.fl, hlook, hx]
    rw [hfr]
    obtain ⟨u, hu, hi⟩ := hv.get hx
    refine ⟨u, ?_, hi.mono hle fun _ _ => trivial⟩
    have hlt : t < vs.length := (List.getElem?_eq_some_iff.1 hu).1
    rw [Array.getElem?_append_left (by simpa using hlt)]
    simp [hu]

def resSem (tmps : Array Value) : ResultVar → Sem Value
  | .tmp t => pure (tmps.getD t undef)
  | .cell p t => do loadVar t (← asAddr (tmps.getD p undef))
theorem resV_run (hs : SimW n W A0 s a w β σ) {r : ResultVar} {sr : SR} (hr : cRes P r = some sr) {v : SV} (hv : resV s sr = some v) (hu : v ≠ .unk) : ∃ u, (resSem a.tmps r).run P w = .ok u w ∧ Is (env A0 s w β σ) v u := by
  cases r with
  | tmp t =>
    simp [cRes] at hr; subst hr
    simp only [resV, Option.some.injEq] at hv
    subst hv
    obtain ⟨u, h1, h2⟩ := hs.fr t hu
    exact ⟨u, by simp [resSem, h1], h2⟩
  | cell p t =>
    simp only [cRes, Option.map_eq_some_iff] at hr
    obtain ⟨k, hk, rfl⟩ := hr
    simp only [resV] at hv
    split at hv
    · rename_i d o hp
      split at hv
      · rename_i T cs hm
        obtain ⟨pv, hh, hi⟩ := hs.fr p (by rw [hp]; simp)
        rw [hp] at hi
        obtain ⟨u, h1, h2⟩ := run_loadVar (P := P) hs hm hk hv
        refine ⟨u, ?_, h2⟩
        have hh' : a.tmps.getD p undef = .pointer (some ⟨β d, o, none⟩) := by simp [hh, hi.ptr_inv.1, env]
        simp only [resSem, hh', asAddr, Sem.run_bind, Sem.run_pure, Result.andThen_ok, h1]
      · cases hv
    · cases hv
theorem results_mapM (hs : SimW n W A0 s a w β σ) : ∀ (rs : List ResultVar) (srs : List SR) (vs : List SV), rs.mapM (cRes P) = some srs → resL s srs = some vs → (∀ v ∈ vs, v ≠ .unk) →
    ∃ us : List Value, (rs.mapM (resSem a.tmps)).run P w = .ok us w ∧ All (env A0 s w β σ) vs us
  | [], srs, vs, h1, h2, _ => by
    simp at h1; subst h1; simp [resL] at h2; subst h2
    exact ⟨[], by simp, All.nil⟩
  | r :: rs, srs, vs, h1, h2, h3 => by
    simp only [List.mapM_cons, Option.bind_eq_bind, Option.pure_def, Option.bind_eq_some_iff] at h1
    obtain ⟨sr, hr, srs', hrs, he⟩ := h1
    simp only [Option.some.injEq] at he
    subst he
    simp only [resL] at h2
    split at h2
    case h_2 => cases h2
    rename_i v vs' hv hvs
    simp only [Option.some.injEq] at h2
    subst h2
    obtain ⟨u, hu, hi⟩ := resV_run (P := P) hs hr hv (h3 v (List.mem_cons_self ..))
    obtain ⟨us, hus, his⟩ := results_mapM hs rs srs' vs' hrs hvs fun v hv => h3 v (List.mem_cons_of_mem _ hv)
    refine ⟨u :: us, ?_, All.cons hi his⟩
    rw [List.mapM_cons, Sem.run_bind, hu, Result.andThen_ok, Sem.run_bind, hus]
    rfl
theorem isT0_of {A : Nat → Prop} {out : Option Value} {x : SV} {v : Value} (h : Is (E0 w A) x v) : IsT0 (E0 w A) out x v := by
  cases x
  case sl d g => cases h with | sl _ _ _ _ _ _ h1 _ _ => cases h1
  all_goals exact h
theorem isT1_of {A : Nat → Prop} {out : Option Value} {x : SV} {v : Value} (h : Is (E0 w A) x v) : IsT1 (E0 w A) out x v := by
  cases x
  case agg cs =>
    obtain ⟨vs, rfl, h1, h2⟩ := h.agg_inv
    exact ⟨vs, rfl, h1, fun j x u hx hu => isT0_of (h2 j x u hx hu)⟩
  all_goals (simp only [IsT1]; exact isT0_of h)
theorem tupOf_is {A : Nat → Prop} {out : Option Value} {xs : List SV} {us : List Value} (hl : us.length = xs.length) (h : ∀ (j : Nat) x u, xs[j]? = some x → us[j]? = some u → IsT1 (E0 w A) out x u) (hnt : ∀ x ∈ xs, ∀ ts, x ≠ .tup ts) {fn : Func} {tmps : Array Value} (hrun : (fn.results.toList.mapM (resSem tmps)).run P w = .ok us w) :
    ∃ v, (results fn tmps).run P w = .ok v w ∧ IsT (E0 w A) out (tupOf xs) v := by
  have hr : (results fn tmps).run P w = .ok (if h : us.toArray.size = 1 then us.toArray[0] else .tuple us.toArray) w := by
    have hdef : results fn tmps = (do let vs ← fn.results.mapM (resSem tmps); pure (if h : vs.size = 1 then vs[0] else .tuple vs)) := rfl
    rw [hdef, Sem.run_bind, Array.mapM_eq_mapM_toList, Sem.run_map]
    rw [hrun]
    rfl
  refine ⟨_, hr, ?_⟩
  match xs, us, hl, h, hnt with
  | [x], [u], _, h, hnt =>
    simp only [List.size_toArray, List.length_singleton, dite_true, tupOf]
    have h1 := h 0 x u rfl rfl
    cases x
    case tup => exact absurd rfl (hnt _ (List.mem_singleton.2 rfl) _)
    all_goals exact h1
  | [], [], _, _, _ => exact ⟨[], rfl, rfl, by simp⟩
  | x :: x' :: xs, u :: u' :: us, hl, h, hnt =>
    have hne : ¬ (u :: u' :: us).toArray.size = 1 := by simp
    rw [dif_neg hne]
    exact ⟨u :: u' :: us, rfl, hl, h⟩
theorem ok1_notTup {x : SV} (h : x.ok1 = true) : ∀ ts, x ≠ .tup ts := fun ts he => by subst he; simp [SV.ok1, SV.ok0] at h
theorem ok1_ne {m : Nat → Cel} {x : SV} (h : (x.res1 m).ok1 = true) : x ≠ .unk := fun he => by subst he; simp [SV.res1, SV.res0, SV.ok1, SV.ok0] at h

/-- What takeOwn takes. -/
theorem takeOwn_spec {m : Nat → Cel} : ∀ {j : Nat} {vs us : List SV} {d e : Nat} {r : Row SV}, takeOwn m j vs = some (us, d, e, r) → ∃ g, vs[j]? = some (.sl d g) ∧ m d = .row g e r ∧ labsR r = [] ∧ e < 1000000 ∧ us.length = vs.length ∧ us[j]? = some (.sl 0 0) ∧
    ∀ (i : Nat) x, i ≠ j → vs[i]? = some x → us[i]? = some (x.res1 m) ∧ d ∉ x.labs
  | _, [], us, d, e, r, h => by simp [takeOwn] at h
  | 0, v :: vs, us, d, e, r, h => by
    cases v <;> simp only [takeOwn] at h <;> try (cases h; done)
    rename_i d' g
    split at h
    · rename_i g' e' r' hm
      split at h
      · rename_i hc
        obtain ⟨rfl, h2, h3, h4⟩ := hc
        simp only [Option.some.injEq, Prod.mk.injEq] at h
        obtain ⟨rfl, rfl, rfl, rfl⟩ := h
        refine ⟨g, rfl, hm, h3, h4, by simp, rfl, fun i x hi hx => ?_⟩
        cases i with
        | zero => exact absurd rfl hi
        | succ i =>
          have hx' : vs[i]? = some x := by simpa using hx
          refine ⟨by simp [hx'], fun hd => ?_⟩
          have := mem_labsL (List.mem_of_getElem? hx') hd
          simp only [List.contains_eq_mem, decide_eq_false_iff_not] at h2
          exact h2 this
      · cases h
    · cases h
  | j + 1, v :: vs, us, d, e, r, h => by
    have h' : (match takeOwn m j vs with | some (us, d, e, r) => if v.labs.contains d = false then some (v.res1 m :: us, d, e, r) else none | none => none) = some (us, d, e, r) := by
      cases v <;> exact h
    split at h'
    · rename_i us' d' e' r' ht
      split at h'
      · rename_i hc
        simp only [Option.some.injEq, Prod.mk.injEq] at h'
        obtain ⟨rfl, rfl, rfl, rfl⟩ := h'
        obtain ⟨g, i1, i2, i3, i0, i4, i5, i6⟩ := takeOwn_spec ht
        refine ⟨g, by simpa using i1, i2, i3, i0, by simp [i4], by simpa using i5, fun i x hi hx => ?_⟩
        cases i with
        | zero =>
          simp at hx; subst hx
          exact ⟨rfl, by simpa using hc⟩
        | succ i =>
          have := i6 i x (by omega) (by simpa using hx)
          exact ⟨by simpa using this.1, this.2⟩
      · cases h'
    · cases h'

/-- The slice that is handed back. -/
def OutX (W : Wd) (w' : World) (A : Nat → Prop) (out : Option Value) : Option (Nat × Row SV) → Prop
  | none => out = none
  | some (e, r) => ∃ ov, ∃ us : List Value, out = some ov ∧ r.Wf ∧ e < 1000000 ∧ (∀ b, ov.ownBlock = some b → W.mine b) ∧ w'.ownsRow 0 e r.size ov r.len us ∧ All (E0 w' fun b => A b ∨ outBlk out b) r.cells us
theorem results_run (hs : SimW n W A0 s a w β σ) {fn : Func} {srs : List SR} (h1 : fn.results.toList.mapM (cRes P) = some srs) {ow : Option Nat} {v : SV} {own : Option (Nat × Row SV)} (h2 : resAll s ow srs = some (v, own)) :
    ∃ u, (results fn a.tmps).run P w = .ok u w ∧ ∃ out : Option Value, OutX W w A0 out own ∧ IsT (E0 w fun b => A0 b ∨ outBlk out b) out v u := by
  unfold resAll at h2
  split at h2
  case h_2 => cases h2
  rename_i vs hvs
  cases ow with
  | none =>
    simp only at h2
    split at h2
    case isFalse => cases h2
    rename_i hok
    simp only [Option.some.injEq, Prod.mk.injEq] at h2
    obtain ⟨rfl, rfl⟩ := h2
    have hne : ∀ x ∈ vs, x ≠ .unk := fun x hx => ok1_ne (m := s.mem) ((List.all_eq_true.1 hok) _ (List.mem_map.2 ⟨x, hx, rfl⟩))
    obtain ⟨us, hrun, his⟩ := results_mapM (P := P) hs fn.results.toList srs vs h1 hvs hne
    have hA : ∀ b, (A0 b ∨ outBlk none b) → (env A0 s w β σ).A b := fun b hb => by
      rcases hb with hb | hb
      · exact .inl hb
      · simp [outBlk] at hb
    obtain ⟨u, hu, hT⟩ := tupOf_is (P := P) (w := w) (A := fun b => A0 b ∨ outBlk none b) (out := none) (xs := vs.map (SV.res1 s.mem)) (us := us) (by simp [his.1]) (fun j x u hx hu => by
      rw [List.getElem?_map] at hx
      obtain ⟨y, hy, rfl⟩ := Option.map_eq_some_iff.1 hx
      have hm := List.mem_of_getElem? hy
      refine isT1_of (res1_is hs hA (his.2 j y u hy hu) ((List.all_eq_true.1 hok) _ (List.mem_map.2 ⟨y, hm, rfl⟩)) (.inl fun d _ b hb hA' => ?_))
      have hlt := ((hs.mem d).lt hb).1
      rcases hA' with hA' | hA'
      · exact hs.apart hlt hA'
      · simp [outBlk] at hA') (fun x hx => ok1_notTup ((List.all_eq_true.1 hok) x hx)) hrun
    exact ⟨u, hu, none, rfl, hT⟩
  | some j =>
    simp only at h2
    split at h2
    case h_2 => cases h2
    rename_i us' d e r ht
    split at h2
    case isFalse => cases h2
    rename_i hok
    simp only [Option.some.injEq, Prod.mk.injEq] at h2
    obtain ⟨rfl, rfl⟩ := h2
    obtain ⟨g, t1, t2, t3, t0, t4, t5, t6⟩ := takeOwn_spec ht
    have hok' : ∀ i x, i ≠ j → vs[i]? = some x → (x.res1 s.mem).ok1 = true := fun i x hi hx => by
      have := (List.all_eq_true.1 hok) _ (List.mem_of_getElem? (t6 i x hi hx).1)
      generalize hy : x.res1 s.mem = y at this ⊢
      cases y <;> try exact this
      case sl d' g' =>
        exfalso
        cases x <;> simp only [SV.res1, SV.res0] at hy <;> try (cases hy; done)
        · split at hy <;> cases hy
        · simp only [SV.resP] at hy
          split at hy <;> cases hy
    have hne : ∀ x ∈ vs, x ≠ .unk := fun x hx => by
      obtain ⟨i, hi, rfl⟩ := List.getElem_of_mem hx
      by_cases hij : i = j
      · subst hij
        rw [List.getElem?_eq_getElem hi] at t1
        simp only [Option.some.injEq] at t1
        rw [t1]; simp
      · exact ok1_ne (m := s.mem) (hok' i _ hij (List.getElem?_eq_getElem hi))
    obtain ⟨us, hrun, his⟩ := results_mapM (P := P) hs fn.results.toList srs vs h1 hvs hne
    obtain ⟨ov, ho1, ho2⟩ := his.get t1
    have hval := sl_val hs ho2 (by rw [t2]; rfl)
    have hblk : ∀ b, outBlk (some ov) b ↔ wblk β σ d (s.mem d) = some b := fun b => by rw [t2, hval]; simp [outBlk, wblk]
    have hA : ∀ b, (A0 b ∨ outBlk (some ov) b) → (env A0 s w β σ).A b := fun b hb => by
      rcases hb with hb | hb
      · exact .inl hb
      · exact .inr ⟨d, (hblk b).1 hb⟩
    have hcel := hs.mem d
    rw [t2] at hcel
    obtain ⟨q1, qm, vs', q2, q3⟩ := hcel
    have q2' : w.ownsRow 0 e r.size (σ d).val r.len vs' := ownsM.row q2 t0 fun _ _ => Nat.zero_le _
    obtain ⟨u, hu, hT⟩ := tupOf_is (P := P) (w := w) (A := fun b => A0 b ∨ outBlk (some ov) b) (out := some ov) (xs := us') (us := us) (by rw [his.1, t4]) (fun i x u hx hu => by
      by_cases hij : i = j
      · subst hij
        rw [t5] at hx
        simp only [Option.some.injEq] at hx
        subst hx
        rw [ho1] at hu
        exact hu
      · have hlt : i < vs.length := by rw [← t4]; exact (List.getElem?_eq_some_iff.1 hx).1
        obtain ⟨k1, k2⟩ := t6 i _ hij (List.getElem?_eq_getElem hlt)
        rw [k1] at hx
        simp only [Option.some.injEq] at hx
        subst hx
        refine isT1_of (res1_is hs hA (his.2 i _ u (List.getElem?_eq_getElem hlt) hu) (hok' i _ hij (List.getElem?_eq_getElem hlt)) (.inl fun d' hd' b hb hA' => ?_))
        have hge := ((hs.mem d').lt hb).1
        rcases hA' with hA' | hA'
        · exact hs.apart hge hA'
        · exact hs.sep d d' b (fun he => by subst he; exact k2 hd') ((hblk b).1 hA') hb) (fun x hx ts he => by
        have := (List.all_eq_true.1 hok) x hx
        subst he
        simp [SV.ret1, SV.ok1, SV.ok0] at this) hrun
    refine ⟨u, hu, some ov, ⟨ov, vs', rfl, q1, t0, by rw [hval]; exact qm, by rw [hval]; exact q2', ?_⟩, hT⟩
    exact q3.monoR (to_E0 (E := env A0 s w β σ) hA) (by rw [t3]; simp)

/-- **A function's contract.** -/
theorem fun_sound (hΓ : GamOk P Γ) (hm : P.follows .mixedOrders = true) {f : Nat} {F : SF} (hF : cFunc P f = some F) {xs : List SV} {ow : Option Nat} {R : SV → Option (Nat × Row SV) → Prop} (hv : vcFun Γ F xs ow R) (hn : xs.length ≤ F.n) :
    FunIs P f ∧ ∀ (A : Nat → Prop) (w : World) (vs : List Value), ((∀ b, A b → b < w.heap.size) ∧ GlbW w) → All (E0 w A) xs vs →
      Calls P f vs.toArray w fun e w' => Below w.heap.size w w' ∧ ∃ v r own, e = .returned v ∧ R r own ∧ ∃ out : Option Value, OutOk w w' A out own ∧ IsT (E0 w' fun b => A b ∨ outBlk out b) out r v := by
  unfold cFunc at hF
  split at hF
  case h_2 => cases hF
  rename_i fn hfn
  split at hF
  · cases hF
  rename_i hname
  split at hF
  case h_2 => cases hF
  rename_i c hc
  split at hF
  case h_2 => cases hF
  rename_i b0 rs hb0 hrs
  split at hF
  case h_2 => cases hF
  rename_i b hb
  simp only [Option.some.injEq] at hF
  subst hF
  refine ⟨⟨fn, hfn, hname, by rw [hc]; rfl⟩, fun A w vs hlow hvs => calls_of_wp hfn hc ?_⟩
  refine vc_sound (W := ⟨w, fun _ => False, fun _ => none⟩) (A0 := A) hΓ hm c b hb (fun _ _ => rfl) _ _ _ _ _ hv (entry_sim hlow hvs hn) fun e t a' w' hk hs' => ?_
  obtain ⟨β, σ, hs0⟩ := hs'
  have hend : vcRet ow R rs t → a'.defers = [] ∧ ∃ v, (results fn a'.tmps).run P w' = .ok v w' ∧ (Below w.heap.size w w' ∧ ∃ v' r own, Ending.returned v = .returned v' ∧ R r own ∧ ∃ out : Option Value, OutOk w w' A out own ∧ IsT (E0 w' fun b => A b ∨ outBlk out b) out r v') := fun hret => by
    unfold vcRet at hret
    split at hret
    · rename_i r own hr
      obtain ⟨u, hu, out, hout, hT⟩ := results_run (P := P) hs0 hrs hr
      refine ⟨hs0.defers, u, hu, ⟨hs0.bel.os, hs0.bel.tape, hs0.bel.output, hs0.bel.size, fun k hk => hs0.bel.block k hk fun h => h⟩, u, r, own, rfl, hret, out, ?_, hT⟩
      cases own with
      | none => exact hout
      | some er =>
        obtain ⟨ov, us, o1, o2, o3, o4, o5, o6⟩ := hout
        refine ⟨ov, us, o1, o2, o3, ⟨o5.1, ?_⟩, o6⟩
        rcases o5.2 with h | ⟨g, cap, cur, h1, _, h3⟩
        · exact .inl h
        · exact .inr ⟨g, cap, cur, h1, (o4 g (by rw [h1]; rfl)).resolve_right fun h => h, h3⟩
    · exact hret.elim
  cases e with
  | normal => exact hend hk
  | ret => exact hend hk
  | exit i => exact hk.elim
end
end Go.Proofs.Ytgklfolmlcfjgaa.Y
