/- The second walk is sound: calls; every operation in one theorem. -/
import Derived.Test.YtgklfolmlcfjgaaY8
namespace Go.Proofs.Ytgklfolmlcfjgaa.Y
open Go.RowKit
set_option linter.unusedSimpArgs false
set_option linter.unusedVariables false

/-- A memory in which nothing is named. -/
def E0 (w : World) (A : Nat → Prop) : Env := ⟨w, A, fun _ => none, fun _ => 0, fun _ => default⟩
/-- A result: 'sl' in it is the new slice. -/
def IsT0 (E : Env) (out : Option Value) : SV → Value → Prop
  | .sl _ _, v => out = some v
  | x, v => Is E x v
def IsT1 (E : Env) (out : Option Value) : SV → Value → Prop
  | .agg cs, v => ∃ vs : List Value, v = .agg vs.toArray ∧ vs.length = cs.length ∧ ∀ (j : Nat) x u, cs[j]? = some x → vs[j]? = some u → IsT0 E out x u
  | x, v => IsT0 E out x v
def IsT (E : Env) (out : Option Value) : SV → Value → Prop
  | .tup cs, v => ∃ vs : List Value, v = .tuple vs.toArray ∧ vs.length = cs.length ∧ ∀ (j : Nat) x u, cs[j]? = some x → vs[j]? = some u → IsT1 E out x u
  | x, v => IsT1 E out x v
def outBlk (out : Option Value) (b : Nat) : Prop := out.bind Value.ownBlock = some b
/-- The new slice is ours. -/
def OutOk (w w' : World) (A : Nat → Prop) (out : Option Value) : Option (Nat × Row SV) → Prop
  | none => out = none
  | some (e, r) => ∃ ov, ∃ us : List Value, out = some ov ∧ r.Wf ∧ e < 1000000 ∧ w'.ownsRow w.heap.size e r.size ov r.len us ∧ All (E0 w' fun b => A b ∨ outBlk out b) r.cells us
/-- There is such a function. -/
def FunIs (P : Program) (f : Nat) : Prop := ∃ fn, P.funcs[f]? = some fn ∧ fn.name ≠ "runtime.NumGoroutine" ∧ fn.body.isSome = true
/-- Nothing is turned but the slice's own block. -/
structure Only (v : Value) (w w' : World) : Prop where
  os : w'.os = w.os
  tape : w'.tape = w.tape
  output : w'.output = w.output
  size : w.heap.size ≤ w'.heap.size
  block : ∀ k, k < w.heap.size → v.ownBlock ≠ some k → w'.heap[k]? = w.heap[k]?
/-- The function puts r1 into a slice of our own that held r0. -/
def WrOk (P : Program) (f : Nat) (r0 r1 : Row SV) : Prop :=
  FunIs P f ∧ r1.Wf ∧ ∀ (base e : Nat) (w : World) (v : Value) (us : List Value), e < 1000000 → GlbW w → (∀ b, v.ownBlock = some b → glbAt b = none) → w.ownsRow base e r0.size v r0.len us → All (E0 w fun _ => False) r0.cells us →
    Calls P f #[v] w fun ex w' => ex = .returned (.tuple #[]) ∧ Only v w w' ∧ ∃ us' : List Value, w'.ownsRow base e r1.size v r1.len us' ∧ All (E0 w' fun _ => False) r1.cells us'
/-- The function puts r1 in the place of r0, a slice of our own that is handed to it, and hands it back. -/
def ApOk (P : Program) (f : Nat) (r0 : Row SV) (rest : List SV) (e : Nat) (r1 : Row SV) : Prop :=
  FunIs P f ∧ r1.Wf ∧ ∀ (w : World) (v : Value) (us vs : List Value), GlbW w → (∀ b, v.ownBlock = some b → glbAt b = none) → w.ownsRow 0 e r0.size v r0.len us → All (E0 w fun _ => False) r0.cells us → All (E0 w fun _ => False) rest vs →
    Calls P f (v :: vs).toArray w fun ex w' => ∃ v', ∃ us' : List Value, ex = .returned v' ∧ w'.ownsRow 0 e r1.size v' r1.len us' ∧ All (E0 w' fun _ => False) r1.cells us' ∧ w.grownBy w' v.ownBlock ∧ ∀ b, v'.ownBlock = some b → v.ownBlock = some b ∨ w.heap.size ≤ b
/-- With these arguments the function hands back such a result. -/
def FunOk0 (P : Program) (f : Nat) (xs : List SV) (r : SV) (own : Option (Nat × Row SV)) : Prop :=
  FunIs P f ∧ ∀ (A : Nat → Prop) (w : World) (vs : List Value), ((∀ b, A b → b < w.heap.size) ∧ GlbW w) → All (E0 w A) xs vs →
    Calls P f vs.toArray w fun e w' => Below w.heap.size w w' ∧ ∃ v, e = .returned v ∧ ∃ out : Option Value, OutOk w w' A out own ∧ IsT (E0 w' fun b => A b ∨ outBlk out b) out r v
/-- From number 1000000 on: what functions do that write a slice. -/
def FunOk (P : Program) (f : Nat) (xs : List SV) (r : SV) (own : Option (Nat × Row SV)) : Prop :=
  (f < 1000000 → FunOk0 P f xs r own) ∧ (1000000 ≤ f → own = none → ∃ r0 r1, xs = [.rw r0] ∧ r = .rw r1 ∧ WrOk P (f - 1000000) r0 r1) ∧ (1000000 ≤ f → ∀ e r1, own = some (e, r1) → ∃ r0 rest, xs = .rw r0 :: rest ∧ ApOk P (f - 1000000) r0 rest e r1)
theorem FunOk.of {P : Program} {f : Nat} {xs : List SV} {r : SV} {own : Option (Nat × Row SV)} (hf : f < 1000000) (h : FunOk0 P f xs r own) : FunOk P f xs r own := ⟨fun _ => h, fun hh => by omega, fun hh => by omega⟩
def GamOk (P : Program) (Γ : Gam) : Prop := ∀ f xs p r own, Γ f xs = some (p, r, own) → p → FunOk P f xs r own

section
variable {Γ : Gam} {P : Program} {n : Nat} {W : Wd} {A0 : Nat → Prop} {s : St} {a : Act} {w : World} {β : Nat → Nat} {σ : Nat → Sl} {o : Oper} {K : Act → World → Prop} {Q : Exit → Act → World → Prop}

/-- From a state's memory to one in which nothing is named. -/
theorem to_E0 {E : Env} {A : Nat → Prop} (hA : ∀ b, A b → E.A b) : E.le (E0 E.w A) fun _ => False :=
  ⟨fun _ _ h => h.elim, fun b h1 h2 => ⟨rfl, fun h => h2 (hA b h)⟩, Nat.le_refl _⟩
theorem nolab {l : List Nat} (h : l.isEmpty = true) : ∀ d ∈ l, False := fun d hd => by
  have : l = [] := by simpa using h
  rw [this] at hd; cases hd

/-- A value, handed on. -/
theorem resP_is (hs : SimW n W A0 s a w β σ) {A : Nat → Prop} (hA : ∀ b, A b → (env A0 s w β σ).A b) {x : SV} {v : Value} (hi : Is (env A0 s w β σ) x v) (hok : (x.resP s.mem).okN = true) (hl : (x.resP s.mem).labs.isEmpty = true) (hn : ∀ d ∈ x.labs, ∀ b, wblk β σ d (s.mem d) = some b → ¬ A b) : Is (E0 w A) (x.resP s.mem) v := by
  have hle : (env A0 s w β σ).le (E0 w A) fun _ => False := to_E0 (E := env A0 s w β σ) hA
  by_cases hp : ∃ d o, x = .ptr d o
  · obtain ⟨d, o, rfl⟩ := hp
    obtain ⟨e1, c, e2⟩ := hi.ptr_inv
    cases hm : s.mem d
    case var T cs =>
      simp only [SV.resP, hm] at hok hl ⊢
      obtain ⟨vs, k1, k2, k3⟩ := var_cells hs hm
      simp only [SV.okN] at hok
      have hall : All (env A0 s w β σ) (cs.drop o) (vs.drop o) := AllU.all ⟨by simp [k2.1], fun j x u hx hu => by rw [List.getElem?_drop] at hx hu; exact k2.2 _ x u hx hu⟩ hok
      have hall' := hall.mono hle (nolab (by rw [SV.labs] at hl; exact hl))
      rw [e1]
      refine .fz _ (β d) o _ (hn d (by simp [SV.labs]) _ (by rw [hm]; rfl)) (Array.getElem?_eq_some_iff.1 k1).1 hall'.1 (fun j u hu => ?_) hall'.2
      rw [List.getElem?_drop] at hu
      have := k3 _ u hu
      simpa [E0] using this
    all_goals simp [SV.resP, hm, SV.okN] at hok
  · have he : x.resP s.mem = x := by
      cases x <;> first | rfl | exact absurd ⟨_, _, rfl⟩ hp
    rw [he] at hl ⊢
    exact hi.mono hle (nolab hl)
theorem res0_is (hs : SimW n W A0 s a w β σ) {A : Nat → Prop} (hA : ∀ b, A b → (env A0 s w β σ).A b) {x : SV} {v : Value} (hi : Is (env A0 s w β σ) x v) (hok : (x.res0 s.mem).ok0 = true) (hn : (∀ d ∈ x.labs, ∀ b, wblk β σ d (s.mem d) = some b → ¬ A b) ∨ (x.noPtr0 = true ∧ own0 s.mem x = [])) : Is (E0 w A) (x.res0 s.mem) v := by
  have hle : (env A0 s w β σ).le (E0 w A) fun _ => False := to_E0 (E := env A0 s w β σ) hA
  cases x
  case sl d g =>
    cases hr : rowAt s.mem (.sl d g)
    case none => simp [SV.res0, hr, SV.ok0] at hok
    case some r =>
      simp only [SV.res0, hr, SV.ok0] at hok ⊢
      have hread := row_read hs hr hi
      rcases hread with ⟨h1, h2, h3⟩ | ⟨b, q, c, vs, h1, h2, h3, h4, h5, h6⟩
      · exact h1.is h2
      · by_cases hl0 : r.len = 0
        · rw [h1, hl0]; exact .rw0 _ _ _ hl0 (fun hh => by cases hh)
        rw [h1]
        have hall := h5.monoR hle (nolab hok)
        refine .rw _ b q c vs h4 h2 ?_ h3 hall.1 h6 hall.2
        intro hAb
        simp only [rowAt] at hr
        split at hr
        · rename_i g' e r' hm
          split at hr
          · rename_i hg
            subst hg
            have hval := sl_val hs hi (by rw [hm]; rfl)
            rcases hn with hn | ⟨_, hn⟩
            · exact hn d (by simp [SV.labs]) b (by rw [hm]; simp only [wblk]; rw [← hval, h1]; rfl) hAb
            · simp [own0, hm] at hn
          · cases hr
        · rename_i g' r' hm
          split at hr
          · rename_i hg
            simp only [Option.some.injEq] at hr; subst hr hg
            have hval := sl_val hs hi (by rw [hm]; rfl)
            have hc := hs.mem d
            rw [hm] at hc
            have hc' : Is (env A0 s w β σ) (.rw r') (σ d).val := hc
            rw [← hval] at hc'
            exact hc'.avoid h1 hl0 (hA b hAb)
          · cases hr
        · cases hr
  case ptr d o =>
    simp only [SV.res0] at hok ⊢
    have h1 : (SV.resP s.mem (.ptr d o)).okN = true ∧ (SV.resP s.mem (.ptr d o)).labs.isEmpty = true := by
      cases hm : s.mem d
      case var T cs =>
        simp only [SV.resP, hm, SV.ok0, Bool.and_eq_true] at hok ⊢
        exact ⟨hok.1, by rw [SV.labs]; exact hok.2⟩
      all_goals simp [SV.resP, hm, SV.ok0] at hok
    refine resP_is hs hA hi h1.1 h1.2 ?_
    rcases hn with hn | ⟨hn, _⟩
    · exact hn
    · simp [SV.noPtr0] at hn
  case clo f cs =>
    simp only [SV.res0, SV.ok0, Bool.and_eq_true] at hok ⊢
    obtain ⟨vs, rfl, hall⟩ := hi.clo_inv
    refine .clo f _ vs (by simp [hall.1]) fun j x u hx hu => ?_
    rw [List.getElem?_map] at hx
    obtain ⟨y, hy, rfl⟩ := Option.map_eq_some_iff.1 hx
    have hm : y.resP s.mem ∈ cs.map (SV.resP s.mem) := List.mem_map.2 ⟨y, List.mem_of_getElem? hy, rfl⟩
    refine resP_is hs hA (hall.2 j y u hy hu) ((List.all_eq_true.1 hok.1) _ hm) ?_ ?_
    · cases hl : (y.resP s.mem).labs with
      | nil => rfl
      | cons d l => exact (nolab hok.2 d (mem_labsL hm (by rw [hl]; exact List.mem_cons_self ..))).elim
    · intro d hd b hb
      have hdl := mem_labsL (List.mem_of_getElem? hy) hd
      rcases hn with hn | ⟨hn, _⟩
      · exact hn d (by rw [SV.labs]; exact hdl) b hb
      · simp only [SV.noPtr0] at hn
        exact (nolab hn d hdl).elim
  case rw r =>
    simp only [SV.res0, SV.ok0] at hok ⊢
    exact hi.mono hle (by rw [SV.labs]; exact nolab hok)
  case nn r =>
    simp only [SV.res0, SV.ok0] at hok ⊢
    exact hi.mono hle (by rw [SV.labs]; exact nolab hok)
  case fz cs =>
    simp only [SV.res0, SV.ok0, Bool.and_eq_true] at hok ⊢
    exact hi.mono hle (by rw [SV.labs]; exact nolab hok.2)
  all_goals first
    | (simp [SV.res0, SV.ok0] at hok; done)
    | exact hi.mono hle (by simp [SV.res0, SV.labs])
theorem res1_is (hs : SimW n W A0 s a w β σ) {A : Nat → Prop} (hA : ∀ b, A b → (env A0 s w β σ).A b) {x : SV} {v : Value} (hi : Is (env A0 s w β σ) x v) (hok : (x.res1 s.mem).ok1 = true) (hn : (∀ d ∈ x.labs, ∀ b, wblk β σ d (s.mem d) = some b → ¬ A b) ∨ (x.noPtr1 = true ∧ own1 s.mem x = [])) : Is (E0 w A) (x.res1 s.mem) v := by
  cases x
  case agg cs =>
    simp only [SV.res1, SV.ok1] at hok ⊢
    obtain ⟨vs, rfl, hall⟩ := hi.agg_inv
    refine .agg _ vs (by simp [hall.1]) fun j x u hx hu => ?_
    rw [List.getElem?_map] at hx
    obtain ⟨y, hy, rfl⟩ := Option.map_eq_some_iff.1 hx
    have hm := List.mem_of_getElem? hy
    refine res0_is hs hA (hall.2 j y u hy hu) ((List.all_eq_true.1 hok) _ (List.mem_map.2 ⟨y, hm, rfl⟩)) ?_
    rcases hn with hn | ⟨h1, h2⟩
    · exact .inl fun d hd b hb => hn d (by rw [SV.labs]; exact mem_labsL hm hd) b hb
    · refine .inr ⟨(List.all_eq_true.1 h1) y hm, ?_⟩
      simp only [own1, List.flatMap_eq_nil_iff] at h2
      exact h2 y hm
  case sl d g =>
    refine res0_is hs hA hi ?_ hn
    simp only [SV.res1, SV.res0] at hok ⊢
    cases hr : rowAt s.mem (.sl d g) <;> simp only [hr] at hok ⊢ <;> exact hok
  case ptr d o =>
    refine res0_is hs hA hi ?_ hn
    simp only [SV.res1, SV.res0, SV.resP] at hok ⊢
    cases hm : s.mem d <;> simp only [hm] at hok ⊢ <;> exact hok
  all_goals exact res0_is hs hA hi hok hn

theorem all_res (hs : SimW n W A0 s a w β σ) {A : Nat → Prop} (hA : ∀ b, A b → (env A0 s w β σ).A b) {vs : List SV} {vals : List Value} (hall : All (env A0 s w β σ) vs vals) (hok : (vs.map (SV.res1 s.mem)).all SV.ok1 = true) (hn : (∀ b, ¬ A b) ∨ (vs.all SV.noPtr1 = true ∧ vs.flatMap (own1 s.mem) = [])) :
    All (E0 w A) (vs.map (SV.res1 s.mem)) vals := by
  refine ⟨by simp [hall.1], fun j x u hx hu => ?_⟩
  rw [List.getElem?_map] at hx
  obtain ⟨y, hy, rfl⟩ := Option.map_eq_some_iff.1 hx
  have hm := List.mem_of_getElem? hy
  refine res1_is hs hA (hall.2 j y u hy hu) ((List.all_eq_true.1 hok) _ (List.mem_map.2 ⟨y, hm, rfl⟩)) ?_
  rcases hn with hn | ⟨h1, h2⟩
  · exact .inl fun _ _ b _ => hn b
  · rw [List.flatMap_eq_nil_iff] at h2
    exact .inr ⟨(List.all_eq_true.1 h1) y hm, h2 y hm⟩

/-! Slices that are let go. -/
def Frz (s s1 : St) : Prop := ∀ d, s1.mem d = s.mem d ∨ ∃ g e r, s.mem d = .row g e r ∧ s1.mem d = .frow g r
theorem Frz.row {s s1 : St} (h : Frz s s1) (x : SV) : rowAt s1.mem x = rowAt s.mem x := by
  cases x <;> try rfl
  rename_i d g
  simp only [rowAt]
  rcases h d with h | ⟨g', e, r, h1, h2⟩
  · rw [h]
  · rw [h1, h2]
theorem Frz.resP {s s1 : St} (h : Frz s s1) (x : SV) : x.resP s1.mem = x.resP s.mem := by
  cases x <;> try rfl
  rename_i d g
  simp only [SV.resP]
  rcases h d with h | ⟨g', e, r, h1, h2⟩
  · rw [h]
  · rw [h1, h2]
theorem Frz.res0 {s s1 : St} (h : Frz s s1) (x : SV) : x.res0 s1.mem = x.res0 s.mem := by
  cases x <;> try rfl
  case sl d g => simp only [SV.res0]; rw [h.row]
  case ptr d o => simp only [SV.res0]; exact h.resP _
  case clo f cs =>
    simp only [SV.res0]
    rw [List.map_congr_left fun c _ => h.resP c]
theorem Frz.res1 {s s1 : St} (h : Frz s s1) (x : SV) : x.res1 s1.mem = x.res1 s.mem := by
  cases x
  case agg cs =>
    simp only [SV.res1]
    rw [List.map_congr_left fun c _ => h.res0 c]
  all_goals (simp only [SV.res1]; exact h.res0 _)
def FzOk (s : St) (p : Nat × Cel) : Prop := ∃ g r, p.2 = .frow g r ∧ ((∃ e, s.mem p.1 = .row g e r) ∨ s.mem p.1 = .frow g r)
theorem setm_self {s : St} {d : Nat} {c : Cel} (h : s.mem d = c) : s.setm d c = s := by
  cases s
  simp only [St.setm, St.mk.injEq, true_and]
  funext t
  simp only [setM]
  split
  · rename_i ht; subst ht; exact h.symm
  · rfl
theorem freezeL : ∀ (L : List (Nat × Cel)) {s : St}, SimW n W A0 s a w β σ → (∀ p ∈ L, FzOk s p) → (env A0 s w β σ).le (env A0 (setL s L) w β σ) (fun _ => True) ∧ SimW n W A0 (setL s L) a w β σ ∧ Frz s (setL s L) ∧ ∀ p ∈ L, (setL s L).mem p.1 = p.2
  | [], s, hs, _ => ⟨⟨fun d c _ h => ⟨c, h, Nat.le_refl _, rfl, fun _ => rfl⟩, fun b _ h => ⟨rfl, h⟩, Nat.le_refl _⟩, hs, fun d => .inl rfl, by simp⟩
  | (d, c) :: L, s, hs, h => by
    have step : (env A0 s w β σ).le (env A0 (s.setm d c) w β σ) (fun _ => True) ∧ SimW n W A0 (s.setm d c) a w β σ ∧ Frz s (s.setm d c) := by
      obtain ⟨g, r, hc, hh⟩ := h _ (List.mem_cons_self ..)
      simp only at hc hh
      subst hc
      rcases hh with ⟨e, hm⟩ | hm
      · obtain ⟨h1, h2⟩ := freeze hs hm
        refine ⟨h1, h2, fun t => ?_⟩
        by_cases ht : t = d
        · subst ht; exact .inr ⟨g, e, r, hm, by simp [St.setm, setM]⟩
        · exact .inl (by simp [St.setm, setM, ht])
      · rw [setm_self hm]
        exact ⟨⟨fun d c _ h => ⟨c, h, Nat.le_refl _, rfl, fun _ => rfl⟩, fun b _ h => ⟨rfl, h⟩, Nat.le_refl _⟩, hs, fun d => .inl rfl⟩
    obtain ⟨s1, s2, s3⟩ := step
    have hmem : (s.setm d c).mem d = c := by simp [St.setm, setM]
    obtain ⟨g, r, hc, _⟩ := h _ (List.mem_cons_self ..)
    simp only at hc
    obtain ⟨i1, i2, i3, i4⟩ := freezeL L s2 (fun p hp => by
      obtain ⟨g', r', hc', hh⟩ := h p (List.mem_cons_of_mem _ hp)
      refine ⟨g', r', hc', ?_⟩
      rcases s3 p.1 with e1 | ⟨g2, e2, r2, e3, e4⟩
      · rw [e1]; exact hh
      · right
        rcases hh with ⟨e5, hh⟩ | hh
        · rw [e3] at hh; cases hh; exact e4
        · rw [e3] at hh; cases hh)
    have hkeep : (setL (s.setm d c) L).mem d = c := by
      rcases i3 d with e1 | ⟨g2, e2, r2, e3, e4⟩
      · rw [e1]; exact hmem
      · rw [hmem, hc] at e3; cases e3
    refine ⟨⟨fun t k _ hk => ?_, fun b h1 h2 => ?_, Nat.le_refl _⟩, i2, fun t => ?_, fun p hp => ?_⟩
    · obtain ⟨c1, a1, a2, a3, a4⟩ := s1.lab t k trivial hk
      obtain ⟨c2, b1, b2, b3, b4⟩ := i1.lab t c1 trivial a1
      exact ⟨c2, b1, by omega, rfl, fun _ => rfl⟩
    · exact ⟨rfl, (i1.blk b h1 (s1.blk b h1 h2).2).2⟩
    · show (setL (s.setm d c) L).mem t = s.mem t ∨ _
      rcases i3 t with e1 | ⟨g2, e2, r2, e3, e4⟩
      · rcases s3 t with f1 | ⟨g3, e3, r3, f3, f4⟩
        · exact .inl (e1.trans f1)
        · exact .inr ⟨g3, e3, r3, f3, e1.trans f4⟩
      · rcases s3 t with f1 | ⟨g3, e3', r3, f3, f4⟩
        · exact .inr ⟨g2, e2, r2, f1.symm.trans e3, e4⟩
        · rw [f4] at e3; cases e3
    · rcases List.mem_cons.1 hp with rfl | hp
      · exact hkeep
      · exact i4 p hp
theorem own0_fz {s : St} (x : SV) : ∀ p ∈ own0 s.mem x, FzOk s p := fun p hp => by
  cases x <;> simp only [own0] at hp <;> try (cases hp; done)
  rename_i d g
  cases hm : s.mem d <;> simp only [hm] at hp <;> try (cases hp; done)
  simp only [List.mem_singleton] at hp
  subst hp
  exact ⟨_, _, rfl, .inl ⟨_, hm⟩⟩
theorem own1_fz {s : St} (x : SV) : ∀ p ∈ own1 s.mem x, FzOk s p := fun p hp => by
  cases x
  case agg cs =>
    simp only [own1, List.mem_flatMap] at hp
    obtain ⟨c, _, hp⟩ := hp
    exact own0_fz c p hp
  all_goals (simp only [own1] at hp; exact own0_fz _ p hp)
theorem own0_done {s s1 : St} {x : SV} (hf : Frz s s1) (h : ∀ p ∈ own0 s.mem x, s1.mem p.1 = p.2) : own0 s1.mem x = [] := by
  cases x <;> try rfl
  rename_i d g
  simp only [own0] at h ⊢
  rcases hf d with e | ⟨g', e, r, h1, h2⟩
  · cases hm : s.mem d with
    | row g' e' r =>
      simp only [hm, List.mem_singleton, forall_eq] at h
      rw [h]
    | _ => rw [e, hm]
  · rw [h2]
theorem own1_done {s s1 : St} {x : SV} (hf : Frz s s1) (h : ∀ p ∈ own1 s.mem x, s1.mem p.1 = p.2) : own1 s1.mem x = [] := by
  cases x
  case agg cs =>
    simp only [own1, List.flatMap_eq_nil_iff]
    intro c hc
    exact own0_done hf fun p hp => h p (by simp only [own1, List.mem_flatMap]; exact ⟨c, hc, hp⟩)
  all_goals (simp only [own1] at h ⊢; exact own0_done hf h)
theorem setm_comm {s : St} {d e : Nat} {c c' : Cel} (h : d ≠ e) : (s.setm d c).setm e c' = (s.setm e c').setm d c := by
  simp only [St.setm]
  congr 1
  funext t
  simp only [setM]
  by_cases h1 : t = e
  · subst h1; simp [Ne.symm h]
  · simp [h1]
theorem setL_setm : ∀ (l : List (Nat × Cel)) (s : St) (d : Nat) (c : Cel), d ∉ l.map (·.1) → setL (s.setm d c) l = (setL s l).setm d c
  | [], _, _, _, _ => rfl
  | (e, c') :: l, s, d, c, h => by
    simp only [List.map_cons, List.mem_cons, not_or] at h
    rw [setL, setL, setm_comm h.1, setL_setm l _ d c h.2]

/-! Results. -/
theorem nm0_is {Es E : Env} {out : Option Value} {lab : Nat} (h1 : ∀ x u, Is Es x u → Is E x u) (h2 : ∀ v, out = some v → Is E (.sl lab 0) v) {x : SV} {v : Value} (h : IsT0 Es out x v) : Is E (x.nm0 lab) v := by
  cases x
  case sl d g => exact h2 v h
  all_goals exact h1 _ _ h
theorem nm1_is {Es E : Env} {out : Option Value} {lab : Nat} (h1 : ∀ x u, Is Es x u → Is E x u) (h2 : ∀ v, out = some v → Is E (.sl lab 0) v) {x : SV} {v : Value} (h : IsT1 Es out x v) : Is E (x.nm1 lab) v := by
  cases x
  case agg cs =>
    obtain ⟨vs, rfl, hl, hv⟩ := h
    refine .agg _ vs (by simp [hl]) fun j x u hx hu => ?_
    rw [List.getElem?_map] at hx
    obtain ⟨y, hy, rfl⟩ := Option.map_eq_some_iff.1 hx
    exact nm0_is h1 h2 (hv j y u hy hu)
  all_goals (simp only [IsT1, SV.nm1] at h ⊢; exact nm0_is h1 h2 h)
theorem nm_is {Es E : Env} {out : Option Value} {lab : Nat} (h1 : ∀ x u, Is Es x u → Is E x u) (h2 : ∀ v, out = some v → Is E (.sl lab 0) v) {x : SV} {v : Value} (h : IsT Es out x v) : Is E (x.nm lab) v := by
  cases x
  case tup cs =>
    obtain ⟨vs, rfl, hl, hv⟩ := h
    refine .tup _ vs (by simp [hl]) fun j x u hx hu => ?_
    rw [List.getElem?_map] at hx
    obtain ⟨y, hy, rfl⟩ := Option.map_eq_some_iff.1 hx
    exact nm1_is h1 h2 (hv j y u hy hu)
  all_goals (simp only [IsT, SV.nm] at h ⊢; exact nm1_is h1 h2 h)
/-- A solid result needs no memory. -/
theorem solid0_is {E E' : Env} {out : Option Value} {x : SV} {v : Value} (hs : x.solid0 = true) (h : IsT0 E out x v) : IsT0 E' out x v := by
  cases x <;> simp only [SV.solid0] at hs <;> try (cases hs; done)
  case int => cases h; exact .int _ _
  case bool => cases h; exact .bool _
  case str => cases h; exact .str _
  case nil => cases h; exact .nil
  case sl => exact h
theorem solid1_is {E E' : Env} {out : Option Value} {x : SV} {v : Value} (hs : x.solid1 = true) (h : IsT1 E out x v) : IsT1 E' out x v := by
  cases x
  case agg cs =>
    obtain ⟨vs, e, hl, hv⟩ := h
    exact ⟨vs, e, hl, fun j x u hx hu => solid0_is ((List.all_eq_true.1 hs) x (List.mem_of_getElem? hx)) (hv j x u hx hu)⟩
  all_goals (simp only [IsT1, SV.solid1] at h hs ⊢; exact solid0_is hs h)
theorem solid_is {E E' : Env} {out : Option Value} {x : SV} {v : Value} (hs : x.solid = true) (h : IsT E out x v) : IsT E' out x v := by
  cases x
  case tup cs =>
    obtain ⟨vs, e, hl, hv⟩ := h
    exact ⟨vs, e, hl, fun j x u hx hu => solid1_is ((List.all_eq_true.1 hs) x (List.mem_of_getElem? hx)) (hv j x u hx hu)⟩
  all_goals (simp only [IsT, SV.solid] at h hs ⊢; exact solid1_is hs h)

def ownSt (s : St) (lab : Nat) : Option (Nat × Row SV) → St
  | some (e, row) => s.setm lab (.row 0 e row)
  | none => s
/-- What comes behind a call: the state s1 (in which whatever was handed on has been let go), the result. -/
theorem ret_sound {s1 : St} (hs1 : SimW n W A0 s1 a w β σ) {w' : World} (hbel : Below w.heap.size w w') {A : Nat → Prop} {out : Option Value} {own : Option (Nat × Row SV)} (hout : OutOk w w' A out own) {lab : Nat} (hf : own.isSome = true → (s1.mem lab).isFresh = true) {r : SV} {v : Value}
    (hrow : ∀ e row, own = some (e, row) → (∀ b, (env A0 s1 w β σ).A b → A b) ∨ labsR row = [] ∧ ∀ c ∈ row.cells, ∀ (E E' : Env) u, Is E c u → Is E' c u)
    (hT : IsT (E0 w' fun b => A b ∨ outBlk out b) out r v) (hr : r.solid = true ∨ ∀ b, (env A0 s1 w β σ).A b → A b) :
    ∃ s2, s2 = ownSt s1 lab own ∧ ∃ β' σ', SimW n W A0 s2 a w' β' σ' ∧ Is (env A0 s2 w' β' σ') (r.nm lab) v := by
  cases own with
  | none =>
    have ho : out = none := hout
    subst ho
    refine ⟨_, rfl, β, σ, hs1.below hbel, ?_⟩
    rcases hr with hr | hr
    · exact nm_is (Es := env A0 s1 w' β σ) (fun _ _ h => h) (fun _ h => by cases h) (solid_is hr hT)
    · have hle : (E0 w' fun b => A b ∨ outBlk none b).le (env A0 s1 w' β σ) (fun _ => True) := ⟨fun d c _ h => (by cases h), fun b h1 h2 => ⟨rfl, fun h => h2 (.inl (hr b h))⟩, Nat.le_refl _⟩
      exact nm_is (Es := E0 w' fun b => A b ∨ outBlk none b) (fun x u hx => hx.mono hle fun _ _ => trivial) (fun _ h => by cases h) hT
  | some er =>
    obtain ⟨e, row⟩ := er
    obtain ⟨ov, us, ho, hw, he0, hown, hall⟩ := hout
    subst ho
    obtain ⟨sd, rfl⟩ := own_val hown
    have henv : ∀ b, (env A0 (s1.setm lab (.row 0 e row)) w' (upd β lab (β lab)) (upd σ lab sd)).A b → (env A0 s1 w β σ).A b ∨ outBlk (some sd.val) b := by
      rintro b (hA | ⟨t, ht⟩)
      · exact .inl (.inl hA)
      · by_cases htl : t = lab
        · subst htl
          simp only [St.setm, setM, if_true, wblk, upd_same] at ht
          exact .inr ht
        · simp only [St.setm, setM, if_neg htl] at ht
          rw [wblk_congr (upd_other _ _ htl) (upd_other _ _ htl)] at ht
          exact .inl (.inr ⟨t, ht⟩)
    have hmono : (∀ b, (env A0 s1 w β σ).A b → A b) → ∀ x u, Is (E0 w' fun b => A b ∨ outBlk (some sd.val) b) x u → Is (env A0 (s1.setm lab (.row 0 e row)) w' (upd β lab (β lab)) (upd σ lab sd)) x u := fun hr x u hx => by
      have hle : (E0 w' fun b => A b ∨ outBlk (some sd.val) b).le (env A0 (s1.setm lab (.row 0 e row)) w' (upd β lab (β lab)) (upd σ lab sd)) (fun _ => True) := ⟨fun d c _ h => (by cases h), fun b h1 h2 => ⟨rfl, fun h => h2 ((henv b h).imp (hr b) id)⟩, Nat.le_refl _⟩
      exact hx.mono hle fun _ _ => trivial
    obtain ⟨_, hs2, hi2⟩ := new_row hs1 lab e row us sd (hf rfl) hbel hw (fun b hb => (hown.lt b hb).1) (ownsM_of he0 hown) (fun _ => by
      rcases hrow e row rfl with hr | ⟨_, hr⟩
      · exact ⟨hall.1, fun j x u hx hu => hmono hr x u (hall.2 j x u hx hu)⟩
      · exact ⟨hall.1, fun j x u hx hu => hr x (List.mem_of_getElem? hx) _ _ u (hall.2 j x u hx hu)⟩)
    refine ⟨_, rfl, _, _, hs2, ?_⟩
    rcases hr with hr | hr
    · exact nm_is (Es := env A0 (s1.setm lab (.row 0 e row)) w' (upd β lab (β lab)) (upd σ lab sd)) (fun _ _ h => h) (fun v h => by simp only [Option.some.injEq] at h; subst h; exact hi2) (solid_is hr hT)
    · exact nm_is (hmono hr) (fun v h => by simp only [Option.some.injEq] at h; subst h; exact hi2) hT

theorem flat_row {row : Row SV} (h : row.flat = true) : labsR row = [] ∧ ∀ c ∈ row.cells, ∀ (E E' : Env) u, Is E c u → Is E' c u := by
  have key : ∀ c : SV, c.flat0 = true → c.labs = [] ∧ ∀ (E E' : Env) u, Is E c u → Is E' c u := fun c hc => by
    cases c <;> simp only [SV.flat0] at hc <;> try (cases hc; done)
    case int => exact ⟨rfl, fun E E' u h => by cases h; exact .int _ _⟩
    case bool => exact ⟨rfl, fun E E' u h => by cases h; exact .bool _⟩
    case str => exact ⟨rfl, fun E E' u h => by cases h; exact .str _⟩
    case nil => exact ⟨rfl, fun E E' u h => by cases h; exact .nil⟩
  have hall : ∀ c ∈ row.cells, c.flat0 = true := fun c hc => by
    cases row with
    | ints k l => simp only [Row.cells, List.mem_map] at hc; obtain ⟨x, _, rfl⟩ := hc; rfl
    | bools l => simp only [Row.cells, List.mem_map] at hc; obtain ⟨x, _, rfl⟩ := hc; rfl
    | strs l => simp only [Row.cells, List.mem_map] at hc; obtain ⟨x, _, rfl⟩ := hc; rfl
    | recs n l =>
      simp only [Row.cells, List.mem_flatten] at hc
      obtain ⟨cs, h1, h2⟩ := hc
      exact (List.all_eq_true.1 ((List.all_eq_true.1 h) cs h1)) c h2
  refine ⟨?_, fun c hc => (key c (hall c hc)).2⟩
  apply List.eq_nil_iff_forall_not_mem.2
  intro d hd
  obtain ⟨c, hc, hd⟩ := of_mem_labsR hd
  rw [(key c (hall c hc)).1] at hd
  cases hd

/-- **A call.** -/
theorem effCall_sound (hΓ : GamOk P Γ) (hs : SimW n W A0 s a w β σ) (hd : ∀ d, o.dst = some d → W.okd n d) {lab f : Nat} (hlt : f < 1000000) {fz : Bool} {vs : List SV} {vals : List Value} (hall : All (env A0 s w β σ) vs vals) {p : Prop} {ef : Eff} (he : effCall Γ lab f fz vs s.mem = some (p, ef)) (hp : p) {s' : St} (happ : app o.dst s ef = some s')
    (hr : FunIs P f → (execOp a.eval o).run P w = .ok (.enter f vals.toArray) w) (hK : ∀ a' w', Sim n W A0 s' a' w' → K a' w') : o.wp P a w K Q := by
  unfold effCall at he
  split at he
  case isFalse => cases he
  rename_i hok
  split at he
  case h_2 => cases he
  rename_i p' r own hg
  have hp' : p' := by
    split at he
    · simp only [Option.some.injEq, Prod.mk.injEq] at he; rw [he.1]; exact hp
    · split at he
      · split at he
        · simp only [Option.some.injEq, Prod.mk.injEq] at he; rw [he.1]; exact hp
        · cases he
      · cases he
  unfold Oper.wp
  rw [hr ((hΓ f _ p' r own hg hp').1 hlt).1]
  split at he
  · rename_i hsol
    simp only [solidAll, Bool.and_eq_true] at hsol
    simp only [Option.some.injEq, Prod.mk.injEq] at he
    obtain ⟨rfl, rfl⟩ := he
    have hcall := ((hΓ f _ p' r own hg hp).1 hlt).2 (fun _ => False) w vals ⟨by simp, hs.glb⟩ (all_res hs (fun _ h => h.elim) hall hok (.inl fun _ h => h))
    refine hcall.mono fun e w' ⟨hbel, v, hev, out, hout, hT⟩ => ?_
    subst hev
    obtain ⟨hf, hs'⟩ : (own.isSome = true → (s.mem lab).isFresh = true) ∧ s' = (ownSt s lab own).put o.dst (r.nm lab) := by
      cases own with
      | none => simp only [app, List.all_nil, if_true, List.append_nil, setL, Option.some.injEq] at happ; exact ⟨by simp, happ.symm⟩
      | some er =>
        simp only [app, List.all_cons, List.all_nil, Bool.and_true, List.append_nil, setL] at happ
        split at happ
        · rename_i hh; simp only [Option.some.injEq] at happ; exact ⟨fun _ => hh, happ.symm⟩
        · cases happ
    obtain ⟨s2, h2, β', σ', hs2, hi2⟩ := ret_sound hs hbel hout hf (fun e row ho => .inr (by subst ho; exact flat_row hsol.2)) hT (.inl hsol.1)
    have hk := hK (a.put o.dst v) w'
    rw [hs', ← h2] at hk
    exact hk ⟨β', σ', hs2.put o.dst hd (.inr hi2)⟩
  · split at he
    case isFalse => cases he
    rename_i hnp
    split at he
    case isFalse => cases he
    simp only [Option.some.injEq, Prod.mk.injEq] at he
    obtain ⟨rfl, rfl⟩ := he
    obtain ⟨hle, hs1, hfz, hdone⟩ := freezeL (vs.flatMap (own1 s.mem)) hs (fun p hp => by
      obtain ⟨x, _, hp⟩ := List.mem_flatMap.1 hp
      exact own1_fz x p hp)
    have hall1 := hall.mono hle fun _ _ => trivial
    have hres : vs.map (SV.res1 (setL s (vs.flatMap (own1 s.mem))).mem) = vs.map (SV.res1 s.mem) := List.map_congr_left fun x _ => hfz.res1 x
    have hown : vs.flatMap (own1 (setL s (vs.flatMap (own1 s.mem))).mem) = [] := by
      rw [List.flatMap_eq_nil_iff]
      intro x hx
      exact own1_done hfz fun p hp => hdone p (List.mem_flatMap.2 ⟨x, hx, hp⟩)
    have hargs := all_res (A := (env A0 (setL s (vs.flatMap (own1 s.mem))) w β σ).A) hs1 (fun _ h => h) hall1 (by rw [hres]; exact hok) (.inr ⟨hnp, hown⟩)
    rw [hres] at hargs
    have hcall := ((hΓ f _ p' r own hg hp).1 hlt).2 _ w vals ⟨fun b hb => hs1.not_avoid hb, hs1.glb⟩ hargs
    refine hcall.mono fun e w' ⟨hbel, v, hev, out, hout, hT⟩ => ?_
    subst hev
    obtain ⟨hf, hs'⟩ : (own.isSome = true → ((setL s (vs.flatMap (own1 s.mem))).mem lab).isFresh = true) ∧ s' = (ownSt (setL s (vs.flatMap (own1 s.mem))) lab own).put o.dst (r.nm lab) := by
      cases own with
      | none => simp only [app, List.all_nil, if_true, List.nil_append, Option.some.injEq] at happ; exact ⟨by simp, happ.symm⟩
      | some er =>
        simp only [app, List.all_cons, List.all_nil, Bool.and_true, List.cons_append, List.nil_append, setL] at happ
        split at happ
        · rename_i hh
          simp only [Option.some.injEq] at happ
          have hnot : lab ∉ (vs.flatMap (own1 s.mem)).map (·.1) := fun hmem => by
            obtain ⟨q, hq, rfl⟩ := List.mem_map.1 hmem
            obtain ⟨x, _, hq'⟩ := List.mem_flatMap.1 hq
            obtain ⟨g, r, _, hm⟩ := own1_fz x q hq'
            rcases hm with ⟨e, hm⟩ | hm <;> rw [hm] at hh <;> cases hh
          refine ⟨fun _ => ?_, by rw [← happ, setL_setm _ _ _ _ hnot]; rfl⟩
          rcases hfz lab with h | ⟨g, e, r, h, _⟩
          · rw [h]; exact hh
          · rw [h] at hh; cases hh
        · cases happ
    obtain ⟨s2, h2, β', σ', hs2, hi2⟩ := ret_sound hs1 hbel hout hf (fun e row ho => .inl fun b hb => hb) hT (.inr fun b hb => hb)
    have hk := hK (a.put o.dst v) w'
    rw [hs', ← h2] at hk
    exact hk ⟨β', σ', hs2.put o.dst hd (.inr hi2)⟩
theorem flat_is {E E' : Env} {x : SV} {v : Value} (hf : x.flat0 = true) (h : Is E x v) : Is E' x v := by
  cases h <;> first | (simp [SV.flat0] at hf; done) | constructor
theorem flat_cells {r : Row SV} (h : r.flat = true) : ∀ c ∈ r.cells, c.flat0 = true := fun c hc => by
  cases r with
  | ints k l => simp only [Row.cells, List.mem_map] at hc; obtain ⟨_, _, rfl⟩ := hc; rfl
  | bools l => simp only [Row.cells, List.mem_map] at hc; obtain ⟨_, _, rfl⟩ := hc; rfl
  | strs l => simp only [Row.cells, List.mem_map] at hc; obtain ⟨_, _, rfl⟩ := hc; rfl
  | recs n l =>
    simp only [Row.cells, List.mem_flatten] at hc
    obtain ⟨cs, h1, h2⟩ := hc
    simp only [Row.flat, List.all_eq_true] at h
    exact h cs h1 c h2
/-- **A call that writes a slice of our own.** -/
theorem callw_sound (hs : SimW n W A0 s a w β σ) (hdst : ∀ d, o.dst = some d → W.okd n d) {f d g e : Nat} {r r' : Row SV} (hm : s.mem d = .row g e r) {v : Value} (hv : Is (env A0 s w β σ) (.sl d g) v) (hl : (labsR r).isEmpty = true) (he0 : e < 1000000) (hok : WrOk P f r r') (h2 : r'.size = r.size ∧ r'.len = r.len ∧ r'.flat = true)
    (hr : (execOp a.eval o).run P w = .ok (.enter f #[v]) w) (hK : ∀ a' w', Sim n W A0 ((s.setm d (.row g e r')).put o.dst (.tup [])) a' w' → K a' w') : o.wp P a w K Q := by
  have hval := sl_val hs hv (by rw [hm]; rfl)
  have hc := hs.mem d
  rw [hm] at hc
  obtain ⟨hw, hmn, vs, hown, hall⟩ := hc
  have hown' : w.ownsRow 0 e r.size (σ d).val r.len vs := ownsM.row hown he0 fun _ _ => Nat.zero_le _
  have hle : (env A0 s w β σ).le (E0 w fun _ => False) fun _ => False := to_E0 (E := env A0 s w β σ) (fun _ h => h.elim)
  have hcall := hok.2.2 0 e w (σ d).val vs he0 hs.glb (fun b hb => by
      cases hg : glbAt b with
      | none => rfl
      | some cs =>
        exfalso
        have h1 : W.mine b := hmn b hb
        obtain ⟨_, h3, _⟩ := hs.low.2.1 b cs hg
        rcases h1 with h1 | h1
        · have h4 : b < W.heap.size := h3; omega
        · exact hs.low.2.2 b (by rw [hg]; simp) h1) hown' (hall.monoR hle (nolab hl))
  unfold Oper.wp
  rw [hr, hval]
  refine hcall.mono fun ex w' ⟨hex, honly, us', hown2, hall2⟩ => ?_
  subst hex
  have hblk : wblk β σ d (s.mem d) = (σ d).val.ownBlock := by rw [hm]; rfl
  have hge : ∀ k, (σ d).val.ownBlock = some k → W.mine k := fun k hk => ((hs.mem d).lt (by rw [hm]; exact hk)).1
  have h := hs.one d (.row g e r') w' (β d) (σ d)
    (hs.bel.next honly.os honly.tape honly.output honly.size (fun k hk hx => honly.block k (Nat.lt_of_lt_of_le hk hs.bel.size) (fun hh => Wd.not_mine hk hx (hge k hh))))
    (fun c hc => by rw [hm] at hc; simp [Cel.ver] at hc; subst hc; exact ⟨g, rfl, Nat.le_refl _, rfl, fun _ => rfl⟩)
    (fun k hk hne => honly.block k hk (by rw [← hblk]; exact hne)) honly.size
    (fun k hk => by rw [upd_self, upd_self] at hk; rw [hblk]; exact .inl hk)
  rw [upd_self, upd_self] at h
  have h' := h fun hle' => by
    refine ⟨hok.2.1, hmn, us', ?_, hall2.1, fun j x u hx hu => flat_is (flat_cells h2.2.2 x (List.mem_of_getElem? hx)) (hall2.2 j x u hx hu)⟩
    exact ownsM_of he0 hown2
  exact hK _ _ ⟨β, σ, h'.2.put o.dst hdst (.inr tup0)⟩
/-- **A call that puts something behind a slice of our own.** -/
theorem calla_sound (hs : SimW n W A0 s a w β σ) (hdst : ∀ d, o.dst = some d → W.okd n d) {f d g e : Nat} {r r' : Row SV} (hm : s.mem d = .row g e r) {v : Value} (hv : Is (env A0 s w β σ) (.sl d g) v) (hfl : r.flat = true) {rest : List SV} {vs : List Value} (hrest : All (env A0 s w β σ) rest vs) (hrf : rest.all SV.flat0 = true) (he0 : e < 1000000) (hok : ApOk P f r rest e r') (h2 : r'.size = r.size ∧ r'.flat = true)
    (hr : (execOp a.eval o).run P w = .ok (.enter f (v :: vs).toArray) w) (hK : ∀ a' w', Sim n W A0 ((s.setm d (.row (g + 1) e r')).put o.dst (.sl d (g + 1))) a' w' → K a' w') : o.wp P a w K Q := by
  have hval := sl_val hs hv (by rw [hm]; rfl)
  have hc := hs.mem d
  rw [hm] at hc
  obtain ⟨hw, hmn, us, hown, hall⟩ := hc
  have hown' : w.ownsRow 0 e r.size (σ d).val r.len us := ownsM.row hown he0 fun _ _ => Nat.zero_le _
  have flatAll : ∀ {E E' : Env} {cs : List SV} {ws : List Value}, (∀ c ∈ cs, c.flat0 = true) → All E cs ws → All E' cs ws := fun hf h => ⟨h.1, fun j x u hx hu => flat_is (hf x (List.mem_of_getElem? hx)) (h.2 j x u hx hu)⟩
  have hcall := hok.2.2 w (σ d).val us vs hs.glb (fun b hb => by
      cases hg : glbAt b with
      | none => rfl
      | some cs =>
        exfalso
        have h1 : W.mine b := hmn b hb
        obtain ⟨_, h3, _⟩ := hs.low.2.1 b cs hg
        rcases h1 with h1 | h1
        · have h4 : b < W.heap.size := h3; omega
        · exact hs.low.2.2 b (by rw [hg]; simp) h1) hown' (flatAll (flat_cells hfl) hall) (flatAll (List.all_eq_true.1 hrf) hrest)
  unfold Oper.wp
  rw [hr, hval]
  refine hcall.mono fun ex w' ⟨v', us', hex, hown2, hall2, hg2, hb2⟩ => ?_
  subst hex
  obtain ⟨σ', hs', hi'⟩ := grow_row (r'' := r') (w' := w') hs hm hok.2.1 (ownsM_of he0 hown2) hg2 hb2 (flatAll (flat_cells h2.2) hall2)
  exact hK _ _ ⟨_, _, hs'.put o.dst hdst (.inr hi')⟩
/-! A slice of our own that is put into another one is let go. -/
theorem go0_one {m : Nat → Cel} {x : SV} (h : (x.go0 m).one = true) : x.one = true := by
  cases x <;> first | exact h | rfl
theorem go1_one {m : Nat → Cel} {x : SV} (h : (x.go1 m).cells.all SV.one = true) : x.cells.all SV.one = true := by
  cases x
  case agg cs =>
    simp only [SV.go1, SV.cells, List.all_eq_true, List.mem_map] at h ⊢
    exact fun c hc => go0_one (h _ ⟨c, hc, rfl⟩)
  case sl d g => rfl
  all_goals exact h
theorem go0_is {s1 : St} (hs : SimW n W A0 s a w β σ) (hs1 : SimW n W A0 s1 a w β σ) (hle : (env A0 s w β σ).le (env A0 s1 w β σ) (fun _ => True)) (hfz : Frz s s1) {x : SV} {v : Value} (hdone : ∀ p ∈ own0 s.mem x, s1.mem p.1 = p.2) (hi : Is (env A0 s w β σ) x v) (h1 : (x.go0 s.mem).one = true) : Is (env A0 s1 w β σ) (x.go0 s.mem) v := by
  cases x
  case sl d g =>
    cases hr : rowAt s.mem (.sl d g) with
    | none => simp [SV.go0, hr, SV.one] at h1
    | some r =>
      simp only [SV.go0, hr]
      simp only [rowAt] at hr
      split at hr
      · rename_i g' e r' hm
        split at hr
        · rename_i hg
          simp only [Option.some.injEq] at hr
          subst hr hg
          have hval := sl_val hs hi (by rw [hm]; rfl)
          have hmem : s1.mem d = .frow g r' := hdone (d, .frow g r') (by simp [own0, hm])
          have hc := hs1.mem d
          rw [hmem] at hc
          rw [hval]
          exact hc
        · cases hr
      · rename_i g' r' hm
        split at hr
        · rename_i hg
          simp only [Option.some.injEq] at hr
          subst hr hg
          have hval := sl_val hs hi (by rw [hm]; rfl)
          have hmem : s1.mem d = .frow g r' := by
            rcases hfz d with h | ⟨g2, e2, r2, h, _⟩
            · rw [h, hm]
            · rw [hm] at h; cases h
          have hc := hs1.mem d
          rw [hmem] at hc
          rw [hval]
          exact hc
        · cases hr
      · cases hr
  all_goals exact hi.mono hle fun _ _ => trivial
theorem go1_is {s1 : St} (hs : SimW n W A0 s a w β σ) (hs1 : SimW n W A0 s1 a w β σ) (hle : (env A0 s w β σ).le (env A0 s1 w β σ) (fun _ => True)) (hfz : Frz s s1) {x : SV} {v : Value} (hdone : ∀ p ∈ own1 s.mem x, s1.mem p.1 = p.2) (hi : Is (env A0 s w β σ) x v) (h1 : (x.go1 s.mem).cells.all SV.one = true) : Is (env A0 s1 w β σ) (x.go1 s.mem) v := by
  cases x
  case agg cs =>
    obtain ⟨vs, rfl, hall⟩ := hi.agg_inv
    simp only [SV.go1, SV.cells, List.all_eq_true, List.mem_map] at h1 ⊢
    refine .agg _ vs (by simp [hall.1]) fun j y u hy hu => ?_
    rw [List.getElem?_map] at hy
    obtain ⟨c, hc, rfl⟩ := Option.map_eq_some_iff.1 hy
    have hm := List.mem_of_getElem? hc
    exact go0_is hs hs1 hle hfz (fun p hp => hdone p (by simp only [own1, List.mem_flatMap]; exact ⟨c, hm, hp⟩)) (hall.2 j c u hc hu) (h1 _ ⟨c, hm, rfl⟩)
  case sl d g =>
    refine go0_is (x := .sl d g) hs hs1 hle hfz hdone hi ?_
    have h2 : (SV.go0 s.mem (.sl d g)).cells.all SV.one = true := h1
    cases hr : rowAt s.mem (.sl d g) with
    | none => simp [SV.go0, hr, SV.cells, SV.one] at h2
    | some r => simp [SV.go0, hr, SV.one]
  all_goals exact hi.mono hle fun _ _ => trivial
theorem storeG_sound (hs : SimW n W A0 s a w β σ) (hdst : ∀ d, o.dst = some d → W.okd n d) {T : TypeId} {x y : Operand} {x' y' : SO} (hx : cO x = some x') (hy : cO y = some y') {d g e ii oo : Nat} {r r' : Row SV} (ex : x'.ev s = .elem d g r.size ii oo) (hm : s.mem d = .row g e r) {i : TypeInfo} (hi : P.info? T = some i)
    (hl : ((y'.ev s).go1 s.mem).cells.length = i.size) (h1 : ((y'.ev s).go1 s.mem).cells.all SV.one = true) (hno : ((own1 s.mem (y'.ev s)).all fun p => p.1 != d) = true) (hlt : ii < r.len) (hp : r.put ii oo ((y'.ev s).go1 s.mem).cells = some r') (ho : o.op = .store T x y)
    (hK : ∀ a' w', Sim n W A0 (((setL s (own1 s.mem (y'.ev s))).setm d (.row g e r')).put o.dst (.tup [])) a' w' → K a' w') : o.wp P a w K Q := by
  have ay := eval_of hs hy (ne_unk_cells (go1_one h1))
  obtain ⟨hle, hs1, hfz, hdone⟩ := freezeL _ hs (own1_fz (y'.ev s))
  have hd1 : (setL s (own1 s.mem (y'.ev s))).mem d = s.mem d := by
    rcases hfz d with h | ⟨g2, e2, r2, h, h'⟩
    · exact h
    · have key : ∀ (L : List (Nat × Cel)) (s : St), (L.all fun p => p.1 != d) = true → (setL s L).mem d = s.mem d := by
        intro L
        induction L with
        | nil => intro s _; rfl
        | cons q L ih =>
          obtain ⟨d', c⟩ := q
          intro s h
          simp only [List.all_cons, Bool.and_eq_true, bne_iff_ne, ne_eq] at h
          rw [setL, ih _ h.2]
          simp only [St.setm, setM]
          rw [if_neg (fun he => h.1 he.symm)]
      exact key _ _ hno
  have hfr : ∀ (L : List (Nat × Cel)) (s : St), (setL s L).fr = s.fr := by
    intro L
    induction L with
    | nil => intro s; rfl
    | cons q L ih => obtain ⟨d', c⟩ := q; intro s; rw [setL, ih]; rfl
  have ex1 : x'.ev (setL s (own1 s.mem (y'.ev s))) = .elem d g r.size ii oo := by
    rw [← ex]
    cases x' with
    | t k => simp only [SO.ev]; rw [hfr]
    | c v => rfl
  exact storeE_sound hs1 hdst hx ex1 (hd1.trans hm) hi hl h1 (go1_is hs hs1 hle hfz hdone ay h1) hlt hp ho hK
theorem litf_sound (hs : SimW n W A0 s a w β σ) (hd : ∀ d, o.dst = some d → W.okd n d) {t e : TypeId} {len : Nat} {ps : Array (Nat × Operand)} {z : List SV} {qs : List (Nat × Nat × SO)} {j : TypeInfo} {r0 : Row SV} (ho : o.op = .buildSlice t len ps) (hu : P.underlying t = some (.slice e))
    (hz : ((P.info? e).bind (·.zero)).bind cellsSV = some z) (hj : P.info? e = some j) (hr0 : row0 P e = some r0) (hzl : z.length = j.size) (hl : len * j.size ≤ 1000) (hq : ps.toList.mapM (cLit j.size) = some qs) {cs : List SV}
    (hf : fillP (List.replicate len z).flatten (qs.map fun p => (p.1, p.2.1)) (((qs.map (·.2.2)).map (SO.ev s)).map (SV.go1 s.mem)) = some cs) {r : Row SV} (hr : mkRow r0 len cs = some r) {lab : Nat} (hfr : (s.mem lab).isFresh = true)
    (hK : ∀ a' w', Sim n W A0 ((setL (s.setm lab (.row 0 e r)) (((qs.map (·.2.2)).map (SO.ev s)).flatMap (own1 s.mem))).put o.dst (.sl lab 0)) a' w' → K a' w') : o.wp P a w K Q := by
  have hne := fillP_ne _ _ _ _ hf
  obtain ⟨L, e1, e2, e3, e4, e5⟩ := parts_of hs (fun i => some (i * j.size, j.size)) (cLit j.size) (fun p q h => by
    unfold cLit at h
    split at h
    · rename_i x hx
      simp only [Option.some.injEq] at h
      subst h
      exact ⟨hx, rfl⟩
    · cases h) ps.toList qs hq (fun q hq' => go1_one (hne _ (List.mem_map.2 ⟨q.2.2.ev s, List.mem_map.2 ⟨q.2.2, List.mem_map.2 ⟨q, hq', rfl⟩, rfl⟩, rfl⟩)))
  have hFz : ∀ p ∈ ((qs.map (·.2.2)).map (SO.ev s)).flatMap (own1 s.mem), FzOk s p := fun p hp => by
    obtain ⟨x, _, hp⟩ := List.mem_flatMap.1 hp
    exact own1_fz x p hp
  obtain ⟨hle, hs1, hfz, hdone⟩ := freezeL _ hs hFz
  have hnot : lab ∉ (((qs.map (·.2.2)).map (SO.ev s)).flatMap (own1 s.mem)).map (·.1) := fun hmem => by
    obtain ⟨q, hq, rfl⟩ := List.mem_map.1 hmem
    obtain ⟨g, r, _, hm⟩ := hFz q hq
    rcases hm with ⟨e, hm⟩ | hm <;> rw [hm] at hfr <;> cases hfr
  rw [setL_setm _ _ _ _ hnot] at hK
  have hfr1 : ((setL s (((qs.map (·.2.2)).map (SO.ev s)).flatMap (own1 s.mem))).mem lab).isFresh = true := by
    rcases hfz lab with h | ⟨g, e, r, h, _⟩
    · rw [h]; exact hfr
    · rw [h] at hfr; cases hfr
  rw [e2] at hne
  refine lit_core hs1 hd ho hu hz hj hr0 hzl hl (L.map fun p => (p.1, p.2.1, p.2.2.1, p.2.2.2.1.go1 s.mem, p.2.2.2.2)) (by rw [e3]; simp) (fun p hp => ?_) (fun p hp => ?_) (by rw [← hf, e1, e2]; simp [Function.comp_def]) hr hfr1 hK
  · obtain ⟨q, hq, rfl⟩ := List.mem_map.1 hp
    exact e4 q hq
  · obtain ⟨q, hq, rfl⟩ := List.mem_map.1 hp
    exact go1_is hs hs1 hle hfz (fun p hp => hdone p (by rw [e2]; exact List.mem_flatMap.2 ⟨q.2.2.2.1, List.mem_map.2 ⟨q, hq, rfl⟩, hp⟩)) (e5 q hq) (hne _ (List.mem_map.2 ⟨q.2.2.2.1, List.mem_map.2 ⟨q, hq, rfl⟩, rfl⟩))
theorem call_run {c : Call} {f : Nat} (ho : o.op = .call c) (hc : c.callee = .value (.func f)) {fn : Func} (hf : P.funcs[f]? = some fn) (hn : fn.name ≠ "runtime.NumGoroutine") (hb : fn.body.isSome = true) :
    (execOp a.eval o).run P w = .ok (.enter f (c.args.toList.map a.eval).toArray) w := by
  have hn' : (fn.name == "runtime.NumGoroutine") = false := by simpa using hn
  have hb' : fn.body.isNone = false := by cases h : fn.body <;> simp_all
  rw [show (c.args.toList.map a.eval).toArray = c.args.map a.eval by rw [← Array.toList_map, Array.toArray_toList]]
  simp only [execOp, ho, resolve, hc, Act.eval, Deferred.ofValue, invoke, callFunc, Sem.run_bind, Sem.run_pure, Result.andThen_ok, run_program, hf, hn', hb', Bool.false_eq_true, if_false, Array.append_empty, Array.empty_append]
theorem callv_run {c : Call} {t f : Nat} {caps : List Value} (ho : o.op = .call c) (hc : c.callee = .value (.tmp t)) (hv : a.eval (.tmp t) = .func (.func f) #[] caps.toArray) {fn : Func} (hf : P.funcs[f]? = some fn) (hn : fn.name ≠ "runtime.NumGoroutine") (hb : fn.body.isSome = true) :
    (execOp a.eval o).run P w = .ok (.enter f (c.args.toList.map a.eval ++ caps).toArray) w := by
  have hn' : (fn.name == "runtime.NumGoroutine") = false := by simpa using hn
  have hb' : fn.body.isNone = false := by cases h : fn.body <;> simp_all
  rw [show (c.args.toList.map a.eval ++ caps).toArray = c.args.map a.eval ++ caps.toArray by rw [← List.append_toArray, ← Array.toList_map, Array.toArray_toList]]
  simp only [execOp, ho, resolve, hc, hv, Deferred.ofValue, invoke, callFunc, Sem.run_bind, Sem.run_pure, Result.andThen_ok, run_program, hf, hn', hb', Bool.false_eq_true, if_false, Array.append_empty, Array.empty_append]
end
end Go.Proofs.Ytgklfolmlcfjgaa.Y
