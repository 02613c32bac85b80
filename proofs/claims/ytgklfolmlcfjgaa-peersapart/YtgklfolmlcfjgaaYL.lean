/- The second walk: from what is shown of functions to what may be said of them where they are called; lists of such sayings; the laws' calls. -/
import Derived.Test.YtgklfolmlcfjgaaYE
namespace Go.Proofs.Ytgklfolmlcfjgaa.Y
open Go.RowKit
set_option linter.unusedSimpArgs false
set_option linter.unusedVariables false

abbrev Say := List SV → Option (Prop × SV × Option (Nat × Row SV))
def gamY (l : List (Nat × Say)) : Gam := fun f xs => match lookN l f with
  | some g => g xs
  | none => none
def FOk (P : Program) (f : Nat) (g : Say) : Prop := ∀ xs p r own, g xs = some (p, r, own) → p → FunOk P f xs r own
theorem gam_ok {P : Program} {l : List (Nat × Say)} (h : ∀ q ∈ l, FOk P q.1 q.2) : GamOk P (gamY l) := by
  intro f xs p r own hg hp
  have look : ∀ {l : List (Nat × Say)} {f : Nat} {g : Say}, lookN l f = some g → (f, g) ∈ l := by
    intro l
    induction l with
    | nil => intro f g h; simp [lookN] at h
    | cons q l ih =>
      intro f g h
      obtain ⟨k, v⟩ := q
      simp only [lookN] at h
      split at h
      · rename_i hk
        simp only [Option.some.injEq] at h
        subst h hk
        exact List.mem_cons_self ..
      · exact List.mem_cons_of_mem _ (ih h)
  unfold gamY at hg
  split at hg
  · rename_i g hl
    exact h _ (look hl) xs p r own hg hp
  · cases hg
theorem gam_nil {P : Program} : ∀ q ∈ ([] : List (Nat × Say)), FOk P q.1 q.2 := by simp
theorem gam_cons {P : Program} {f : Nat} {g : Say} {l : List (Nat × Say)} (h : FOk P f g) (h' : ∀ q ∈ l, FOk P q.1 q.2) : ∀ q ∈ (f, g) :: l, FOk P q.1 q.2 := fun q hq => by
  rcases List.mem_cons.1 hq with rfl | hq
  · exact h
  · exact h' q hq

/-! What stands for what, in results and in arguments. -/
def fitR0 (x y : SV) : Prop := match y with
  | .rw r => (match x with
    | .rw r' => r' = r
    | .nn r' => r' = r
    | .nil => r.len = 0
    | _ => False)
  | y => x = y
def fitRL : List SV → List SV → Prop
  | [], [] => True
  | x :: xs, y :: ys => fitR0 x y ∧ fitRL xs ys
  | _, _ => False
def fitR1 (x y : SV) : Prop := match y with
  | .agg ys => (match x with
    | .agg xs => fitRL xs ys
    | _ => False)
  | y => fitR0 x y
def fitRL1 : List SV → List SV → Prop
  | [], [] => True
  | x :: xs, y :: ys => fitR1 x y ∧ fitRL1 xs ys
  | _, _ => False
def fitR (x y : SV) : Prop := match y with
  | .tup ys => (match x with
    | .tup xs => fitRL1 xs ys
    | _ => False)
  | y => fitR1 x y
theorem fitR0_is {E : Env} {x y : SV} {v : Value} (h : Is E x v) (hf : fitR0 x y) : Is E y v := by
  cases y <;> simp only [fitR0] at hf <;> try (subst hf; exact h)
  rename_i r
  cases x <;> simp only at hf <;> try (exact hf.elim)
  case rw r' => subst hf; exact h
  case nn r' =>
    subst hf
    cases h with
    | nn _ ad l c h => exact h
  case nil => rw [h.nil_inv]; exact emp_nil.is hf
theorem fitR0_isT {E : Env} {out : Option Value} {x y : SV} {v : Value} (h : IsT0 E out x v) (hf : fitR0 x y) : IsT0 E out y v := by
  cases y <;> simp only [fitR0] at hf <;> try (subst hf; exact h)
  rename_i r
  cases x <;> simp only at hf <;> try (exact hf.elim)
  case rw r' => subst hf; exact h
  case nn r' => exact fitR0_is (x := .nn r') (y := .rw r) h hf
  case nil => exact fitR0_is (x := .nil) (y := .rw r) h hf
theorem fitRL_len : ∀ {xs ys : List SV}, fitRL xs ys → xs.length = ys.length ∧ ∀ (j : Nat) x y, xs[j]? = some x → ys[j]? = some y → fitR0 x y
  | [], [], _ => ⟨rfl, by simp⟩
  | [], _ :: _, h => h.elim
  | _ :: _, [], h => h.elim
  | x :: xs, y :: ys, h => by
    obtain ⟨h1, h2⟩ := fitRL_len h.2
    refine ⟨by simp [h1], fun j x' y' hx hy => ?_⟩
    cases j with
    | zero => simp at hx hy; subst hx hy; exact h.1
    | succ j => exact h2 j x' y' (by simpa using hx) (by simpa using hy)
theorem fitRL1_len : ∀ {xs ys : List SV}, fitRL1 xs ys → xs.length = ys.length ∧ ∀ (j : Nat) x y, xs[j]? = some x → ys[j]? = some y → fitR1 x y
  | [], [], _ => ⟨rfl, by simp⟩
  | [], _ :: _, h => h.elim
  | _ :: _, [], h => h.elim
  | x :: xs, y :: ys, h => by
    obtain ⟨h1, h2⟩ := fitRL1_len h.2
    refine ⟨by simp [h1], fun j x' y' hx hy => ?_⟩
    cases j with
    | zero => simp at hx hy; subst hx hy; exact h.1
    | succ j => exact h2 j x' y' (by simpa using hx) (by simpa using hy)
theorem fitR1_isT {E : Env} {out : Option Value} {x y : SV} {v : Value} (h : IsT1 E out x v) (hf : fitR1 x y) : IsT1 E out y v := by
  have base : fitR0 x y → (∀ cs, y ≠ .agg cs) → IsT1 E out y v := fun hf hy => by
    by_cases hx : ∃ cs, x = .agg cs
    · obtain ⟨cs, rfl⟩ := hx
      cases y <;> simp only [fitR0] at hf <;> first | (cases hf; done) | exact hf.elim | exact absurd rfl (hy _)
    · have h' : IsT0 E out x v := by
        cases x <;> first | exact h | exact absurd ⟨_, rfl⟩ hx
      have := fitR0_isT h' hf
      cases y <;> first | exact this | exact absurd rfl (hy _)
  cases y <;> try exact base hf (by simp)
  rename_i ys
  simp only [fitR1] at hf
  cases x <;> simp only at hf <;> try (exact hf.elim)
  rename_i xs
  obtain ⟨vs, rfl, h1, h2⟩ := h
  obtain ⟨g1, g2⟩ := fitRL_len hf
  refine ⟨vs, rfl, by rw [h1, g1], fun j y u hy hu => ?_⟩
  have hj : j < xs.length := by rw [g1]; exact (List.getElem?_eq_some_iff.1 hy).1
  exact fitR0_isT (h2 j _ u (List.getElem?_eq_getElem hj) hu) (g2 j _ y (List.getElem?_eq_getElem hj) hy)
theorem fitR_isT {E : Env} {out : Option Value} {x y : SV} {v : Value} (h : IsT E out x v) (hf : fitR x y) : IsT E out y v := by
  have base : fitR1 x y → (∀ cs, y ≠ .tup cs) → IsT E out y v := fun hf hy => by
    by_cases hx : ∃ cs, x = .tup cs
    · obtain ⟨cs, rfl⟩ := hx
      cases y <;> simp only [fitR1, fitR0] at hf <;> first | (cases hf; done) | exact hf.elim | exact absurd rfl (hy _)
    · have h' : IsT1 E out x v := by
        cases x <;> first | exact h | exact absurd ⟨_, rfl⟩ hx
      have := fitR1_isT h' hf
      cases y <;> first | exact this | exact absurd rfl (hy _)
  cases y <;> try exact base hf (by simp)
  rename_i ys
  simp only [fitR] at hf
  cases x <;> simp only at hf <;> try (exact hf.elim)
  rename_i xs
  obtain ⟨vs, rfl, h1, h2⟩ := h
  obtain ⟨g1, g2⟩ := fitRL1_len hf
  refine ⟨vs, rfl, by rw [h1, g1], fun j y u hy hu => ?_⟩
  have hj : j < xs.length := by rw [g1]; exact (List.getElem?_eq_some_iff.1 hy).1
  exact fitR1_isT (h2 j _ u (List.getElem?_eq_getElem hj) hu) (g2 j _ y (List.getElem?_eq_getElem hj) hy)

/-- **A function does what is shown of it.** -/
theorem fun_ok {P : Program} {Γ : Gam} (hΓ : GamOk P Γ) (hm : P.follows .mixedOrders = true) {f : Nat} {F : SF} (hF : cFunc P f = some F) {xs : List SV} (ow : Option Nat) {r : SV} {own : Option (Nat × Row SV)} (hv : vcFun Γ F xs ow fun v o => fitR v r ∧ o = own) (hn : xs.length ≤ F.n) (hlt : f < 1000000 := by decide) : FunOk P f xs r own := by
  obtain ⟨h1, h2⟩ := fun_sound hΓ hm hF hv hn
  refine .of hlt ⟨h1, fun A w vs hlow hvs => (h2 A w vs hlow hvs).mono fun e w' ⟨hb, v, r', own', he, ⟨hR, hO⟩, out, hout, hT⟩ => ?_⟩
  subst hO
  exact ⟨hb, v, he, out, hout, fitR_isT hT hR⟩
/-- Other words for the arguments. -/
theorem fun_args {P : Program} {f : Nat} {xs ys : List SV} {r : SV} {own : Option (Nat × Row SV)} (h : FunOk P f ys r own) (hf : ∀ (w : World) (A : Nat → Prop) (vs : List Value), All (E0 w A) xs vs → All (E0 w A) ys vs) (hlt : f < 1000000 := by decide) : FunOk P f xs r own :=
  .of hlt ⟨(h.1 hlt).1, fun A w vs hlow hvs => (h.1 hlt).2 A w vs hlow (hf w A vs hvs)⟩
theorem all_fit {E : Env} {xs ys : List SV} (hf : fitRL1 xs ys) {vs : List Value} (h : All E xs vs) : All E ys vs := by
  obtain ⟨g1, g2⟩ := fitRL1_len hf
  refine ⟨by rw [h.1, g1], fun j y u hy hu => ?_⟩
  have hj : j < xs.length := by rw [g1]; exact (List.getElem?_eq_some_iff.1 hy).1
  have hi := h.2 j _ u (List.getElem?_eq_getElem hj) hu
  have hfit := g2 j _ y (List.getElem?_eq_getElem hj) hy
  generalize xs[j] = x at hi hfit
  cases y <;> simp only [fitR1] at hfit <;> try exact fitR0_is hi hfit
  rename_i ys'
  cases x <;> simp only at hfit <;> try (exact hfit.elim)
  rename_i xs'
  obtain ⟨us, rfl, k1, k2⟩ := hi.agg_inv
  obtain ⟨q1, q2⟩ := fitRL_len hfit
  refine .agg _ us (by rw [k1, q1]) fun j y u hy hu => ?_
  have hj : j < xs'.length := by rw [q1]; exact (List.getElem?_eq_some_iff.1 hy).1
  exact fitR0_is (k2 j _ u (List.getElem?_eq_getElem hj) hu) (q2 j _ y (List.getElem?_eq_getElem hj) hy)
theorem fun_fit {P : Program} {f : Nat} {xs ys : List SV} {r : SV} {own : Option (Nat × Row SV)} (h : FunOk P f ys r own) (hf : fitRL1 xs ys) (hlt : f < 1000000 := by decide) : FunOk P f xs r own :=
  fun_args h (fun w A vs => all_fit hf) hlt
/-- A list of whole numbers, in whatever word. -/
def asI : SV → Option (List Int)
  | .rw (.ints .i64 l) => some l
  | .nn (.ints .i64 l) => some l
  | .nil => some []
  | _ => none
def asB : SV → Option (List Bool)
  | .rw (.bools l) => some l
  | .nn (.bools l) => some l
  | .nil => some []
  | _ => none
theorem asI_fit {x : SV} {l : List Int} (h : asI x = some l) : fitR1 x (.rw (.ints .i64 l)) := by
  unfold asI at h
  split at h <;> first | (cases h; done) | (simp only [Option.some.injEq] at h; subst h)
  · simp [fitR1, fitR0]
  · simp [fitR1, fitR0]
  · simp [fitR1, fitR0, Row.len]
theorem asI_fit0 {x : SV} {l : List Int} (h : asI x = some l) : fitR0 x (.rw (.ints .i64 l)) := by
  unfold asI at h
  split at h <;> first | (cases h; done) | (simp only [Option.some.injEq] at h; subst h)
  · simp [fitR0]
  · simp [fitR0]
  · simp [fitR0, Row.len]
theorem asB_fit {x : SV} {l : List Bool} (h : asB x = some l) : fitR1 x (.rw (.bools l)) := by
  unfold asB at h
  split at h <;> first | (cases h; done) | (simp only [Option.some.injEq] at h; subst h)
  · simp [fitR1, fitR0]
  · simp [fitR1, fitR0]
  · simp [fitR1, fitR0, Row.len]
theorem fit_refl1 (x : SV) (h : ∀ cs, x ≠ .agg cs) : fitR1 x x := by
  cases x <;> simp [fitR1, fitR0]
  exact absurd rfl (h _)

/-- **A law's call.** -/
theorem law_callY {P : Program} {Γ : Gam} (hΓ : GamOk P Γ) (hm : P.follows .mixedOrders = true) {f : Nat} {F : SF} (hF : cFunc P f = some F) {xs : List SV} (hv : vcFun Γ F xs none fun v o => v = .bool true) (hn : xs.length ≤ F.n) (w : World) (hG : GlbW w) (vs : List Value) (hvs : All (E0 w fun _ => False) xs vs) :
    Calls P f vs.toArray w fun e w' => e = .returned (.bool true) ∧ Below w.heap.size w w' :=
  ((fun_sound hΓ hm hF hv hn).2 (fun _ => False) w vs ⟨by simp, hG⟩ hvs).mono fun e w' ⟨hb, v, r, own, he, hr, out, hout, hT⟩ => by
    subst hr
    have hT' : Is _ (.bool true) v := hT
    rw [hT'.bool_inv] at he
    exact ⟨he, hb⟩
end Go.Proofs.Ytgklfolmlcfjgaa.Y
