/- The second walk is sound: every operation in one theorem. -/
import Derived.Test.YtgklfolmlcfjgaaY9
namespace Go.Proofs.Ytgklfolmlcfjgaa.Y
open Go.RowKit
set_option linter.unusedSimpArgs false
set_option linter.unusedVariables false
section
variable {Γ : Gam} {P : Program} {n : Nat} {W : Wd} {A0 : Nat → Prop} {s : St} {a : Act} {w : World} {β : Nat → Nat} {σ : Nat → Sl} {o : Oper} {K : Act → World → Prop} {Q : Exit → Act → World → Prop}

theorem none_some {α : Type} {x : α} {p : Prop} (h : (none : Option α) = some x) : p := by cases h

/-- The operations that look at no memory. -/
theorem pure_yld {fz : Bool} {k : SK} (hc : cOp0 P fz o = some k) (hk : k.pure = true) (hs : SimW n W A0 s a w β σ) {p : Prop} {v : SV} (he : effP k (k.opnds.map (SO.ev s)) = some (p, v)) (hp : p) : Yld P A0 s a w β σ o v := by
  unfold cOp0 at hc
  split at hc
  · rename_i x ho
    split at hc
    · split at hc
      · obtain ⟨r, _, rfl⟩ := Option.map_eq_some_iff.1 hc; cases hk
      · cases hc
    · obtain ⟨y, hy, rfl⟩ := Option.map_eq_some_iff.1 hc
      simp only [effP, SK.opnds, List.map_cons, List.map_nil, Option.some.injEq, Prod.mk.injEq] at he
      obtain ⟨_, rfl⟩ := he
      exact mov_yld hs hy (.inl ho)
  · rename_i x ho
    split at hc
    · split at hc
      · obtain ⟨r, _, rfl⟩ := Option.map_eq_some_iff.1 hc; cases hk
      · cases hc
    · obtain ⟨y, hy, rfl⟩ := Option.map_eq_some_iff.1 hc
      simp only [effP, SK.opnds, List.map_cons, List.map_nil, Option.some.injEq, Prod.mk.injEq] at he
      obtain ⟨_, rfl⟩ := he
      exact mov_yld hs hy (.inr ho)
  · rename_i c x y ho
    split at hc
    · rename_i c' x' y' h1 h2 h3
      simp only [Option.some.injEq] at hc; subst hc
      simp only [SK.opnds, List.map_cons, List.map_nil] at he
      generalize hv : c'.ev s = vc at he
      cases vc <;> simp only [effP, Option.some.injEq, Prod.mk.injEq] at he <;> try (cases he; done)
      obtain ⟨_, rfl⟩ := he
      exact pick_yld hs h1 h2 h3 hv ho
    · cases hc
  · obtain ⟨y, hy, rfl⟩ := Option.map_eq_some_iff.1 hc
    cases hk
  · split at hc <;> first | (cases hc; done) | (simp only [Option.some.injEq] at hc; subst hc; cases hk; done)
  · rename_i T ps ho
    split at hc
    · rename_i fs z hT hz
      split at hc
      · rename_i hall
        obtain ⟨qs, hq, rfl⟩ := Option.map_eq_some_iff.1 hc
        simp only [SK.opnds, effP] at he
        split at he
        · rename_i cs hf
          simp only [Option.some.injEq, Prod.mk.injEq] at he
          obtain ⟨_, rfl⟩ := he
          exact build_yld hs ho hT hz hall hq hf
        · cases he
      · cases hc
    · rename_i e z hT hz
      split at hc
      · rename_i j hj
        obtain ⟨qs, hq, rfl⟩ := Option.map_eq_some_iff.1 hc
        simp only [SK.opnds, effP] at he
        split at he
        · rename_i cs hf
          simp only [Option.some.injEq, Prod.mk.injEq] at he
          obtain ⟨_, rfl⟩ := he
          exact build_yldA hs ho hT hz hj hq hf
        · cases he
      · cases hc
    · cases hc
  · split at hc <;> first | (cases hc; done) | (simp only [Option.some.injEq] at hc; subst hc; cases hk; done)
  · split at hc <;> first | (cases hc; done) | (simp only [Option.some.injEq] at hc; subst hc; cases hk; done)
  · rename_i op T x y T' ho
    split at hc
    · rename_i x' y' hT hx hy
      simp only [Option.some.injEq] at hc; subst hc
      simp only [SK.opnds, List.map_cons, List.map_nil, effP] at he
      exact bin_yld hs hx hy he hp ho
    · rename_i x' y' hT hx hy
      split at hc <;> try (cases hc; done)
      all_goals
        simp only [Option.some.injEq] at hc
        subst hc
        simp only [SK.opnds, List.map_cons, List.map_nil] at he
        generalize hv : x'.ev s = vx at he
        generalize hv' : y'.ev s = vy at he
        cases vx <;> cases vy <;> simp only [effP, Option.some.injEq, Prod.mk.injEq] at he <;> try (cases he; done)
        obtain ⟨_, rfl⟩ := he
      · exact eqb_yld (neg := false) hs hx hy hT hv hv' ho
      · exact eqb_yld (neg := true) hs hx hy hT hv hv' ho
    · rename_i x' y' hT hx hy
      simp only [Option.some.injEq] at hc; subst hc
      simp only [SK.opnds, List.map_cons, List.map_nil] at he
      generalize hv : x'.ev s = vx at he
      generalize hv' : y'.ev s = vy at he
      cases vx <;> cases vy <;> simp only [effP] at he <;> try (cases he; done)
      exact bins_yld hs hx hy hT hv hv' he hp ho
    · rename_i fs x' y' hT hx hy
      split at hc <;> try (cases hc; done)
      all_goals
        rename_i os hos hbb
        simp only [Option.some.injEq] at hc
        subst hc
        simp only [Bool.and_eq_true, Bool.not_eq_eq_eq_not, Bool.not_true] at hbb
        simp only [SK.opnds, List.map_cons, List.map_nil] at he
        generalize hv : x'.ev s = vx at he
        generalize hv' : y'.ev s = vy at he
        cases vx <;> cases vy <;> simp only [effP] at he <;> try (cases he; done)
        split at he
        · rename_i b hb
          simp only [Option.some.injEq, Prod.mk.injEq] at he
          obtain ⟨_, rfl⟩ := he
          first
            | exact eqs_yld (neg := false) hs hx hy hT hos hbb.1 hbb.2 hv hv' hb ho
            | exact eqs_yld (neg := true) hs hx hy hT hos hbb.1 hbb.2 hv hv' hb ho
        · cases he
    · split at hc <;> first | (cases hc; done) | (simp only [Option.some.injEq] at hc; subst hc; cases hk; done)
    · cases hc
  · rename_i op T x ho
    obtain ⟨y, hy, rfl⟩ := Option.map_eq_some_iff.1 hc
    simp only [SK.opnds, List.map_cons, List.map_nil] at he
    generalize hv : y.ev s = vx at he
    cases op <;> cases vx <;> simp only [effP, Option.some.injEq, Prod.mk.injEq] at he <;> try (cases he; done)
    all_goals
      obtain ⟨_, rfl⟩ := he
      first | exact neg_yld hs hy hv ho | exact not_yld hs hy hv ho | exact xor_yld hs hy hv ho
  · rename_i src dst x ho
    split at hc
    · rename_i k0 k1 x' h1 h2 hx
      simp only [Option.some.injEq] at hc; subst hc
      simp only [SK.opnds, List.map_cons, List.map_nil] at he
      generalize hv : x'.ev s = vx at he
      cases vx <;> simp only [effP, Option.some.injEq, Prod.mk.injEq] at he <;> try (cases he; done)
      obtain ⟨_, rfl⟩ := he
      exact conv_yld hs hx hv h1 h2 ho
    · split at hc
      · simp only [Option.some.injEq] at hc; subst hc; cases hk
      · cases hc
    · split at hc
      · simp only [Option.some.injEq] at hc; subst hc; cases hk
      · cases hc
    · cases hc
  · rename_i T x f ho
    split at hc
    · rename_i fs x' hT hx
      split at hc
      · rename_i fo m hpl
        simp only [Option.some.injEq] at hc; subst hc
        simp only [SK.opnds, List.map_cons, List.map_nil] at he
        exact faddr_yld hs hx hT hpl ho he hp
      · cases hc
    · cases hc
  · rename_i T x f ho
    split at hc
    · rename_i fs x' hT hx
      split at hc
      · rename_i g hg
        obtain ⟨kk, hkk, rfl⟩ := Option.map_eq_some_iff.1 hc
        simp only [SK.opnds, List.map_cons, List.map_nil] at he
        generalize hv : x'.ev s = vx at he
        cases vx <;> simp only [effP] at he <;> try (cases he; done)
        obtain ⟨u, hu, he⟩ := Option.map_eq_some_iff.1 he
        simp only [Prod.mk.injEq] at he
        obtain ⟨_, rfl⟩ := he
        exact fld_yld hs hx hv hT hg hkk hu ho
      · cases hc
    · cases hc
  · rename_i x i ho
    obtain ⟨y, hy, rfl⟩ := Option.map_eq_some_iff.1 hc
    simp only [SK.opnds, List.map_cons, List.map_nil] at he
    generalize hv : y.ev s = vx at he
    cases vx <;> simp only [effP] at he <;> try (cases he; done)
    split at he <;> try (cases he; done)
    rename_i u hnt hu
    simp only [Option.some.injEq, Prod.mk.injEq] at he
    obtain ⟨_, rfl⟩ := he
    exact ext_yld hs hy hv hu ho
  · rename_i f first caps ho
    split at hc
    · rename_i hfi
      obtain ⟨ys, hys, rfl⟩ := Option.map_eq_some_iff.1 hc
      change effP (.mkf f ys) (ys.map (SO.ev s)) = some (p, v) at he
      simp only [effP] at he
      by_cases h1 : (ys.map (SO.ev s)).all SV.one = true
      · rw [if_pos h1] at he
        simp only [Option.some.injEq, Prod.mk.injEq] at he
        obtain ⟨_, rfl⟩ := he
        exact mkf_yld hs hfi hys h1 ho
      · rw [if_neg h1] at he; cases he
    · cases hc
  · rename_i c ho
    split at hc
    · split at hc
      · split at hc
        · split at hc
          · simp only [Option.some.injEq] at hc; subst hc; cases hk
          split at hc
          · split at hc
            · simp only [Option.some.injEq] at hc; subst hc; cases hk
            · cases hc
          · simp only [Option.some.injEq] at hc; subst hc; cases hk
        · cases hc
      · cases hc
    · obtain ⟨ys, _, rfl⟩ := Option.map_eq_some_iff.1 hc; cases hk
    · rename_i hcal
      split at hc
      · rename_i x' y' hx
        simp only [Option.some.injEq] at hc; subst hc
        simp only [SK.opnds, List.map_cons, List.map_nil] at he
        generalize hv : x'.ev s = vx at he
        generalize hv' : y'.ev s = vy at he
        cases vx <;> cases vy <;> simp only [effP] at he <;> try (cases he; done)
        split at he
        · rename_i hkk
          subst hkk
          simp only [Option.some.injEq, Prod.mk.injEq] at he
          obtain ⟨_, rfl⟩ := he
          exact mx_yld (m := true) hs ho hcal hx hv hv'
        · cases he
      · rename_i x' y' z' hx
        simp only [Option.some.injEq] at hc; subst hc
        simp only [SK.opnds, List.map_cons, List.map_nil] at he
        generalize hv : x'.ev s = vx at he
        generalize hv' : y'.ev s = vy at he
        generalize hv'' : z'.ev s = vz at he
        cases vx <;> cases vy <;> try (simp only [effP] at he; cases he; done)
        cases vz <;> simp only [effP] at he <;> try (cases he; done)
        split at he
        · rename_i hkk
          obtain ⟨rfl, rfl⟩ := hkk
          simp only [Option.some.injEq, Prod.mk.injEq] at he
          obtain ⟨_, rfl⟩ := he
          exact mx3_yld (m := true) hs ho hcal hx hv hv' hv''
        · cases he
      · cases hc
    · rename_i hcal
      split at hc
      · rename_i x' y' hx
        simp only [Option.some.injEq] at hc; subst hc
        simp only [SK.opnds, List.map_cons, List.map_nil] at he
        generalize hv : x'.ev s = vx at he
        generalize hv' : y'.ev s = vy at he
        cases vx <;> cases vy <;> simp only [effP] at he <;> try (cases he; done)
        split at he
        · rename_i hkk
          subst hkk
          simp only [Option.some.injEq, Prod.mk.injEq] at he
          obtain ⟨_, rfl⟩ := he
          exact mx_yld (m := false) hs ho hcal hx hv hv'
        · cases he
      · rename_i x' y' z' hx
        simp only [Option.some.injEq] at hc; subst hc
        simp only [SK.opnds, List.map_cons, List.map_nil] at he
        generalize hv : x'.ev s = vx at he
        generalize hv' : y'.ev s = vy at he
        generalize hv'' : z'.ev s = vz at he
        cases vx <;> cases vy <;> try (simp only [effP] at he; cases he; done)
        cases vz <;> simp only [effP] at he <;> try (cases he; done)
        split at he
        · rename_i hkk
          obtain ⟨rfl, rfl⟩ := hkk
          simp only [Option.some.injEq, Prod.mk.injEq] at he
          obtain ⟨_, rfl⟩ := he
          exact mx3_yld (m := false) hs ho hcal hx hv hv' hv''
        · cases he
      · cases hc
    · split at hc
      · split at hc <;> first | (cases hc; done) | (simp only [Option.some.injEq] at hc; subst hc; cases hk; done)
      · cases hc
    · split at hc
      · split at hc
        · split at hc
          · split at hc
            · simp only [Option.some.injEq] at hc; subst hc; cases hk
            · split at hc
              · simp only [Option.some.injEq] at hc; subst hc; cases hk
              · cases hc
          · cases hc
        · cases hc
      · cases hc
    · split at hc
      · split at hc
        · split at hc
          · simp only [Option.some.injEq] at hc; subst hc; cases hk
          · cases hc
        · cases hc
      · cases hc
    · cases hc
  · rename_i t x i ho
    split at hc
    · split at hc <;> first | (cases hc; done) | (simp only [Option.some.injEq] at hc; subst hc; cases hk; done)
    · rename_i m e x' i' hT hx hi
      split at hc
      · rename_i j hj
        split at hc
        · rename_i hsz
          simp only [Option.some.injEq] at hc; subst hc
          simp only [SK.opnds, List.map_cons, List.map_nil] at he
          generalize hv : x'.ev s = vx at he
          generalize hv' : i'.ev s = vy at he
          cases vx <;> cases vy <;> simp only [effP, Option.some.injEq, Prod.mk.injEq] at he <;> try (cases he; done)
          all_goals
            obtain ⟨rfl, rfl⟩ := he
            first | exact aptr_yld hs hx hi hT hj hsz hv hv' hp ho | exact aptrG_yld hs hx hi hT hj hsz hv hv' hp ho
        · cases hc
      · cases hc
    · cases hc
  · rename_i t x i ho
    split at hc
    · rename_i x' i' hT hx hi
      simp only [Option.some.injEq] at hc; subst hc
      simp only [SK.opnds, List.map_cons, List.map_nil] at he
      generalize hv : x'.ev s = vx at he
      generalize hv' : i'.ev s = vy at he
      cases vx <;> cases vy <;> simp only [effP, Option.some.injEq, Prod.mk.injEq] at he <;> try (cases he; done)
      obtain ⟨rfl, rfl⟩ := he
      exact sidx_yld hs hx hi hT hv hv' hp ho
    · rename_i m e x' i' hT hx hi
      split at hc
      · rename_i j k hj hk2
        simp only [Option.some.injEq] at hc; subst hc
        simp only [SK.opnds, List.map_cons, List.map_nil] at he
        generalize hv : x'.ev s = vx at he
        generalize hv' : i'.ev s = vy at he
        cases vx <;> cases vy <;> simp only [effP] at he <;> try (cases he; done)
        obtain ⟨u, hu, he⟩ := Option.map_eq_some_iff.1 he
        simp only [Prod.mk.injEq] at he
        obtain ⟨rfl, rfl⟩ := he
        exact aidx_yld hs hx hi hT hj hk2 hv hv' hp hu ho
      · cases hc
    · cases hc
  · rename_i t x lo hi ho
    split at hc
    · split at hc <;> first | (cases hc; done) | (simp only [Option.some.injEq] at hc; subst hc; cases hk; done)
    · rename_i x' lo' hi' hT hx hlo hhi
      simp only [Option.some.injEq] at hc; subst hc
      simp only [SK.opnds, List.map_cons] at he
      generalize hv : x'.ev s = vx at he
      cases vx <;> simp only [effP] at he <;> try (cases he; done)
      obtain ⟨⟨l, h⟩, hb, he⟩ := Option.map_eq_some_iff.1 he
      simp only [Prod.mk.injEq] at he
      obtain ⟨rfl, rfl⟩ := he
      exact ssub_yld hs hx hlo hhi hT hv hb hp.1 hp.2.1 hp.2.2 ho
    · cases hc
  · split at hc
    · split at hc
      · split at hc
        · split at hc <;> first | (cases hc; done) | (simp only [Option.some.injEq] at hc; subst hc; (split at hk <;> cases hk); done)
        · cases hc
      · cases hc
    · cases hc
  · split at hc
    · split at hc
      · split at hc <;> first | (cases hc; done) | (simp only [Option.some.injEq] at hc; subst hc; cases hk; done)
      · cases hc
    · cases hc
  · cases hc

theorem app_new {lab : Nat} {dst : Option Nat} {v : SV} {c : Cel} {s s' : St} (h : app dst s ⟨v, [(lab, c)], []⟩ = some s') : (s.mem lab).isFresh = true ∧ s' = (s.setm lab c).put dst v := by
  simp only [app, List.all_cons, List.all_nil, Bool.and_true, List.append_nil, setL] at h
  split at h
  · rename_i hh; simp only [Option.some.injEq] at h; exact ⟨hh, h.symm⟩
  · cases h
theorem app_val {dst : Option Nat} {v : SV} {s s' : St} (h : app dst s (.val v) = some s') : s' = s.put dst v := by
  simp only [app, Eff.val, List.all_nil, if_true, List.append_nil, setL, Option.some.injEq] at h
  exact h.symm
theorem app_set {dst : Option Nat} {v : SV} {l : List (Nat × Cel)} {s s' : St} (h : app dst s ⟨v, [], l⟩ = some s') : s' = (setL s l).put dst v := by
  simp only [app, List.all_nil, if_true, List.nil_append, Option.some.injEq] at h
  exact h.symm

theorem setL_app : ∀ (l l' : List (Nat × Cel)) (s : St), setL s (l ++ l') = setL (setL s l) l'
  | [], _, _ => rfl
  | (d, c) :: l, l', s => setL_app l l' (s.setm d c)
/-- **An operation does what is said of it.** -/
theorem app_eq0 {dst : Option Nat} {s s' : St} {lab : Nat} {c : Cel} {v : SV} {l : List (Nat × Cel)} (h : app dst s ⟨v, [(lab, c)], l⟩ = some s') : (∀ p ∈ [(lab, c)], (s.mem p.1).isFresh = true) ∧ s' = (setL (s.setm lab c) l).put dst v := by
  simp only [app, List.all_cons, List.all_nil, Bool.and_true, List.cons_append, List.nil_append, setL] at h
  split at h
  · rename_i hh
    simp only [Option.some.injEq] at h
    exact ⟨fun p hp => by simp only [List.mem_singleton] at hp; subst hp; exact hh, h.symm⟩
  · cases h
theorem op_sound (hΓ : GamOk P Γ) {fz : Bool} {k : SK} (hc' : cOp P fz o = some k) (hs : SimW n W A0 s a w β σ) (hd : ∀ d, o.dst = some d → W.okd n d) {lab : Nat} {p : Prop} {e : Eff} (he : eff Γ lab k (k.opnds.map (SO.ev s)) s.mem = some (p, e)) (hp : p) {s' : St} (happ : app o.dst s e = some s')
    (hK : ∀ a' w', Sim n W A0 s' a' w' → K a' w') : o.wp P a w K Q := by
  simp only [cOp, Option.some.injEq] at hc'
  cases hc : cOp0 P fz o with
  | none => rw [hc] at hc'; simp only [Option.getD_none] at hc'; subst hc'; simp [eff, SK.pure, effM] at he
  | some k' =>
  rw [hc] at hc'
  simp only [Option.getD_some] at hc'
  rw [hc'] at hc
  clear hc'
  unfold eff at he
  by_cases hk : k.pure = true
  · rw [if_pos hk] at he
    obtain ⟨⟨p', v⟩, h1, h2⟩ := Option.map_eq_some_iff.1 he
    simp only [Prod.mk.injEq] at h2
    obtain ⟨rfl, rfl⟩ := h2
    exact yld_sound hs hd (pure_yld hc hk hs h1 hp) (app_val happ) hK
  rw [if_neg hk] at he
  unfold cOp0 at hc
  split at hc
  · rename_i x ho
    split at hc
    · rename_i hnil
      split at hc
      · rename_i e0 hu
        obtain ⟨r, hr, rfl⟩ := Option.map_eq_some_iff.1 hc
        simp only [effM, Option.some.injEq, Prod.mk.injEq] at he
        obtain ⟨_, rfl⟩ := he
        obtain ⟨hf, rfl⟩ := app_new happ
        exact nilrow_sound hs hd hnil hr hf (.inl ho) hK
      · cases hc
    · obtain ⟨y, hy, rfl⟩ := Option.map_eq_some_iff.1 hc; exact absurd rfl hk
  · rename_i x ho
    split at hc
    · rename_i hnil
      split at hc
      · rename_i e0 hu
        obtain ⟨r, hr, rfl⟩ := Option.map_eq_some_iff.1 hc
        simp only [effM, Option.some.injEq, Prod.mk.injEq] at he
        obtain ⟨_, rfl⟩ := he
        obtain ⟨hf, rfl⟩ := app_new happ
        exact nilrow_sound hs hd hnil hr hf (.inr ho) hK
      · cases hc
    · obtain ⟨y, hy, rfl⟩ := Option.map_eq_some_iff.1 hc; exact absurd rfl hk
  · split at hc <;> first | (cases hc; done) | (simp only [Option.some.injEq] at hc; subst hc; exact absurd rfl hk)
  · rename_i T x ho
    obtain ⟨y, hy, rfl⟩ := Option.map_eq_some_iff.1 hc
    simp only [SK.opnds, List.map_cons, List.map_nil, effM] at he
    by_cases h1 : (y.ev s).cells.all SV.one = true
    · rw [if_pos h1] at he
      simp only [Option.some.injEq, Prod.mk.injEq] at he
      obtain ⟨_, rfl⟩ := he
      obtain ⟨hf, rfl⟩ := app_new happ
      exact box_sound hs hd hy h1 hf ho hK
    · rw [if_neg h1] at he; cases he
  · rename_i T ho
    split at hc
    · rename_i z hz
      simp only [Option.some.injEq] at hc; subst hc
      simp only [SK.opnds, List.map_nil, effM, Option.some.injEq, Prod.mk.injEq] at he
      obtain ⟨_, rfl⟩ := he
      obtain ⟨hf, rfl⟩ := app_new happ
      exact alloc_sound hs hd hz hf ho hK
    · cases hc
  · split at hc
    · split at hc
      · obtain ⟨y, hy, rfl⟩ := Option.map_eq_some_iff.1 hc; exact absurd rfl hk
      · cases hc
    · split at hc
      · obtain ⟨y, hy, rfl⟩ := Option.map_eq_some_iff.1 hc; exact absurd rfl hk
      · cases hc
    · cases hc
  · rename_i T x ho
    split at hc
    · rename_i kk x' hkk hx
      simp only [Option.some.injEq] at hc; subst hc
      simp only [SK.opnds, List.map_cons, List.map_nil, effM] at he
      generalize hv : x'.ev s = vx at he
      cases vx <;> simp only [Option.isNone_none, if_true, labOk] at he <;> try (cases he; done)
      case ptr d off =>
        cases hm : s.mem d <;> simp only [hm] at he <;> try (cases he; done)
        obtain ⟨u, hu, he⟩ := Option.map_eq_some_iff.1 he
        simp only [Prod.mk.injEq] at he
        obtain ⟨_, rfl⟩ := he
        exact yld_sound hs hd (load_yld hs hx hv hm hkk hu ho) (app_val happ) hK
      case elem d g sz i oo =>
        split at he
        case h_2 => cases he
        rename_i r hr
        split at he
        case isFalse => cases he
        rename_i hsz
        subst hsz
        obtain ⟨u, hu, he⟩ := Option.map_eq_some_iff.1 he
        simp only [Prod.mk.injEq] at he
        obtain ⟨rfl, rfl⟩ := he
        exact yld_sound hs hd (loadE_yld hs hx hv hr hp hkk hu ho) (app_val happ) hK
      case fz cs =>
        obtain ⟨u, hu, he⟩ := Option.map_eq_some_iff.1 he
        simp only [Prod.mk.injEq] at he
        obtain ⟨_, rfl⟩ := he
        exact yld_sound hs hd (loadF_yld hs hx hv hkk hu ho) (app_val happ) hK
      all_goals
        rename_i g q
        split at he
        case h_2 => cases he
        rename_i cs hg
        obtain ⟨u, hu, he⟩ := Option.map_eq_some_iff.1 he
        simp only [Prod.mk.injEq] at he
        obtain ⟨_, rfl⟩ := he
        exact yld_sound hs hd (loadG_yld hs hx hv hg hkk hu ho) (app_val happ) hK
    · cases hc
  · rename_i T x v ho
    split at hc
    · rename_i i x' v' hi hx hv
      simp only [Option.some.injEq] at hc; subst hc
      simp only [SK.opnds, List.map_cons, List.map_nil, effM] at he
      generalize hvx : x'.ev s = vx at he
      cases vx <;> simp only [Option.isNone_none, if_true, labOk] at he <;> try (cases he; done)
      case ptr d off =>
        cases hm : s.mem d <;> simp only [hm] at he <;> try (cases he; done)
        split at he
        · rename_i hcond
          simp only [Option.some.injEq, Prod.mk.injEq] at he
          obtain ⟨_, rfl⟩ := he
          have := app_set happ
          subst this
          exact store_sound hs hd hx hv hvx hm hi hcond.1 hcond.2.1 hcond.2.2 ho hK
        · cases he
      case elem d g sz ii oo =>
        cases hm : s.mem d <;> simp only [hm] at he <;> try (cases he; done)
        split at he
        · rename_i hcond
          obtain ⟨rfl, rfl, h3, h4, h5⟩ := hcond
          obtain ⟨r', hr', he⟩ := Option.map_eq_some_iff.1 he
          simp only [Prod.mk.injEq] at he
          obtain ⟨rfl, rfl⟩ := he
          have := app_set happ
          rw [setL_app] at this
          subst this
          exact storeG_sound hs hd hx hv hvx hm hi h3 h4 h5 hp hr' ho hK
        · cases he
    · cases hc
  · rename_i op T x y T' ho
    split at hc
    · simp only [Option.some.injEq] at hc; subst hc; exact absurd rfl hk
    · split at hc <;> first | (cases hc; done) | (simp only [Option.some.injEq] at hc; subst hc; exact absurd rfl hk)
    · simp only [Option.some.injEq] at hc; subst hc; exact absurd rfl hk
    · split at hc <;> first | (cases hc; done) | (simp only [Option.some.injEq] at hc; subst hc; exact absurd rfl hk)
    · rename_i e0 x' hT hx hy
      have key : ∀ neg : Bool, o.op = .binOp (if neg then .neq else .eql) T x y T' → eff Γ lab (.isnil neg x') ((SK.isnil neg x').opnds.map (SO.ev s)) s.mem = some (p, e) → o.wp P a w K Q := fun neg ho he => by
        simp only [eff, SK.pure, Bool.false_eq_true, if_false, SK.opnds, List.map_cons, List.map_nil, effM] at he
        split at he
        · rename_i hvs
          simp only [List.cons.injEq, and_true] at hvs
          simp only [Option.some.injEq, Prod.mk.injEq] at he
          obtain ⟨_, rfl⟩ := he
          have := isnil_yld (neg := neg) (b := true) hs hx hy hT (by rw [hvs]; simp) (.inl ⟨hvs, rfl⟩) ho
          exact yld_sound hs hd this (by have := app_val happ; cases neg <;> exact this) hK
        · rename_i r hvs
          simp only [List.cons.injEq, and_true] at hvs
          simp only [Option.some.injEq, Prod.mk.injEq] at he
          obtain ⟨_, rfl⟩ := he
          have := isnil_yld (neg := neg) (b := false) hs hx hy hT (by rw [hvs]; simp) (.inr (.inl ⟨⟨r, hvs⟩, rfl⟩)) ho
          exact yld_sound hs hd this (by have := app_val happ; cases neg <;> exact this) hK
        · rename_i v h1 h2 hvs
          simp only [List.cons.injEq, and_true] at hvs
          obtain ⟨r, hr, he⟩ := Option.map_eq_some_iff.1 he
          simp only [Prod.mk.injEq] at he
          obtain ⟨rfl, rfl⟩ := he
          have := isnil_yld (neg := neg) (b := false) hs hx hy hT (by rw [hvs]; intro hh; rw [hh] at hr; simp [rowAt] at hr) (.inr (.inr ⟨⟨r, by rw [hvs]; exact hr, hp⟩, rfl⟩)) ho
          exact yld_sound hs hd this (by have := app_val happ; cases neg <;> exact this) hK
        · cases he
      have he' : eff Γ lab k (k.opnds.map (SO.ev s)) s.mem = some (p, e) := by unfold eff; rw [if_neg hk]; exact he
      split at hc
      · simp only [Option.some.injEq] at hc; subst hc; exact key false ho he'
      · simp only [Option.some.injEq] at hc; subst hc; exact key true ho he'
      · cases hc
    · cases hc
  · obtain ⟨y, hy, rfl⟩ := Option.map_eq_some_iff.1 hc; exact absurd rfl hk
  · rename_i src dst x ho
    split at hc
    · simp only [Option.some.injEq] at hc; subst hc; exact absurd rfl hk
    · rename_i e0 x' h1 h2 hx
      split at hc
      case isFalse => cases hc
      rename_i hcond
      simp only [Bool.and_eq_true, decide_eq_true_eq] at hcond
      simp only [Option.some.injEq] at hc; subst hc
      simp only [SK.opnds, List.map_cons, List.map_nil, effM] at he
      split at he
      case h_2 => cases he
      rename_i bs hvs
      simp only [List.cons.injEq, and_true] at hvs
      simp only [Option.some.injEq, Prod.mk.injEq] at he
      obtain ⟨rfl, rfl⟩ := he
      obtain ⟨hf, rfl⟩ := app_new happ
      exact tob_sound hs hd ho h1 h2 hcond.1 hcond.2 hx hvs (by simp only [maxLen]; omega) hf hK
    · rename_i e0 x' h1 h2 hx
      split at hc
      case isFalse => cases hc
      rename_i hcond
      simp only [Option.some.injEq] at hc; subst hc
      simp only [SK.opnds, List.map_cons, List.map_nil, effM] at he
      split at he
      · rename_i hvs
        simp only [List.cons.injEq, and_true] at hvs
        simp only [Option.some.injEq, Prod.mk.injEq] at he
        obtain ⟨_, rfl⟩ := he
        exact yld_sound hs hd (tos_yld hs ho h1 h2 hcond hx (l := []) (.inl ⟨hvs, rfl⟩)) (app_val happ) hK
      · rename_i v _ hvs
        simp only [List.cons.injEq, and_true] at hvs
        split at he
        case h_2 => cases he
        rename_i l hr
        simp only [Option.some.injEq, Prod.mk.injEq] at he
        obtain ⟨_, rfl⟩ := he
        exact yld_sound hs hd (tos_yld hs ho h1 h2 hcond hx (.inr (by rw [hvs]; exact hr))) (app_val happ) hK
      · cases he
    · cases hc
  · split at hc <;> first | (cases hc; done) | (split at hc <;> first | (cases hc; done) | (simp only [Option.some.injEq] at hc; subst hc; exact absurd rfl hk))
  · split at hc
    · split at hc
      · obtain ⟨y, hy, rfl⟩ := Option.map_eq_some_iff.1 hc; exact absurd rfl hk
      · cases hc
    · cases hc
  · obtain ⟨y, hy, rfl⟩ := Option.map_eq_some_iff.1 hc; exact absurd rfl hk
  · split at hc
    · obtain ⟨y, hy, rfl⟩ := Option.map_eq_some_iff.1 hc; exact absurd rfl hk
    · cases hc
  · rename_i c ho
    split at hc
    · rename_i f hcal
      split at hc
      · rename_i fn ys hfn hys
        split at hc
        · rename_i hcond
          simp only [Bool.and_eq_true, bne_iff_ne, ne_eq] at hcond
          split at hc
          · rename_i happ0
            simp only [Option.some.injEq] at hc; subst hc
            simp only [SK.opnds, effM] at he
            split at he
            case h_2 => cases he
            rename_i d g rest hev
            split at he
            case h_2 => cases he
            rename_i g' e r hm
            split at he
            case isFalse => cases he
            rename_i hg
            obtain ⟨rfl, hfl, hrf⟩ := hg
            split at he
            case h_2 => cases he
            rename_i p' e' r' hgam
            split at he
            case isFalse => cases he
            rename_i hrr
            obtain ⟨rfl, he0, hr1, hr2⟩ := hrr
            simp only [Option.some.injEq, Prod.mk.injEq] at he
            obtain ⟨rfl, rfl⟩ := he
            obtain ⟨r0, rest', e1, hap⟩ := (hΓ _ _ _ _ _ hgam hp).2.2 (by omega) _ _ rfl
            simp only [List.cons.injEq, SV.rw.injEq] at e1
            obtain ⟨rfl, rfl⟩ := e1
            rw [Nat.add_sub_cancel] at hap
            simp only [app, List.all_nil, if_true, List.nil_append, setL, Option.some.injEq] at happ
            subst happ
            have hall := mapM_cO hs c.args.toList ys hys fun y' hy' hu => by
              have : SV.unk ∈ ys.map (SO.ev s) := List.mem_map.2 ⟨y', hy', hu⟩
              rw [hev] at this
              rcases List.mem_cons.1 this with h | h
              · cases h
              · have := (List.all_eq_true.1 hrf) _ h
                simp [SV.flat0] at this
            rw [hev] at hall
            obtain ⟨v, us, hvs, hi, hn⟩ := All.cons_inv hall
            refine calla_sound hs hd hm hi hfl hn hrf he0 hap ⟨hr1, hr2⟩ ?_ hK
            have := call_run (a := a) (w := w) ho hcal hfn hcond.1 hcond.2
            rw [hvs] at this
            exact this
          split at hc
          · rename_i hres
            split at hc
            case h_2 => cases hc
            rename_i y
            simp only [Option.some.injEq] at hc; subst hc
            simp only [SK.opnds, effM, List.map_cons, List.map_nil] at he
            split at he
            case h_2 => cases he
            rename_i d g hev
            simp only [List.cons.injEq, and_true] at hev
            split at he
            case h_2 => cases he
            rename_i g' e r hm
            split at he
            case isFalse => cases he
            rename_i hg
            obtain ⟨rfl, hlab, he00⟩ := hg
            split at he
            case h_2 => cases he
            rename_i p' r' hgam
            split at he
            case isFalse => cases he
            rename_i hrr
            simp only [Option.some.injEq, Prod.mk.injEq] at he
            obtain ⟨rfl, rfl⟩ := he
            obtain ⟨r0, r1, e1, e2, hwr⟩ := (hΓ _ _ _ _ _ hgam hp).2.1 (by omega) rfl
            simp only [List.cons.injEq, SV.rw.injEq, and_true] at e1 e2
            subst e1 e2
            rw [Nat.add_sub_cancel] at hwr
            simp only [app, List.all_nil, if_true, List.nil_append, setL, Option.some.injEq] at happ
            subst happ
            have hall := mapM_cO hs c.args.toList [y] (by rw [hys]) fun y' hy' hu => by
              simp only [List.mem_singleton] at hy'
              subst hy'
              rw [hev] at hu; cases hu
            obtain ⟨v, us, hvs, hi, hn⟩ := All.cons_inv (by simpa using hall)
            obtain rfl := hn.nil_inv
            rw [hev] at hi
            refine callw_sound hs hd hm hi hlab he00 hwr hrr ?_ hK
            have := call_run (a := a) (w := w) ho hcal hfn hcond.1 hcond.2
            rw [hvs] at this
            exact this
          simp only [Option.some.injEq] at hc; subst hc
          simp only [SK.opnds, effM] at he
          split at he
          case isFalse => cases he
          rename_i hflt
          have hall := mapM_cO hs c.args.toList ys hys fun y hy hu => by
            unfold effCall at he
            split at he
            case isFalse => cases he
            rename_i hok
            have := (List.all_eq_true.1 hok) (SV.res1 s.mem (y.ev s)) (List.mem_map.2 ⟨_, List.mem_map.2 ⟨y, hy, rfl⟩, rfl⟩)
            rw [hu] at this
            simp [SV.res1, SV.res0, SV.ok1, SV.ok0] at this
          exact effCall_sound hΓ hs hd hflt hall he hp happ (fun _ => call_run ho hcal hfn hcond.1 hcond.2) hK
        · cases hc
      · cases hc
    · rename_i t hcal
      obtain ⟨ys, hys, rfl⟩ := Option.map_eq_some_iff.1 hc
      simp only [SK.opnds, List.map_cons, effM] at he
      generalize hv : (SO.t t).ev s = vx at he
      cases vx <;> simp only at he <;> try (cases he; done)
      case clo f caps =>
        split at he
        case isFalse => cases he
        rename_i hflt
        have hcl := eval_of (x := .tmp t) hs rfl (by rw [hv]; simp)
        rw [hv] at hcl
        obtain ⟨cvs, hcv, hcall⟩ := hcl.clo_inv
        have hall := mapM_cO hs c.args.toList ys hys fun y hy hu => by
          unfold effCall at he
          split at he
          case isFalse => cases he
          rename_i hok
          have := (List.all_eq_true.1 hok) (SV.res1 s.mem (y.ev s)) (List.mem_map.2 ⟨_, List.mem_append_left _ (List.mem_map.2 ⟨y, hy, rfl⟩), rfl⟩)
          rw [hu] at this
          simp [SV.res1, SV.res0, SV.ok1, SV.ok0] at this
        exact effCall_sound hΓ hs hd hflt (hall.append hcall) he hp happ (fun ⟨fn, h1, h2, h3⟩ => callv_run ho hcal hcv h1 h2 h3) hK
    · split at hc <;> first | (cases hc; done) | (simp only [Option.some.injEq] at hc; subst hc; exact absurd rfl hk)
    · split at hc <;> first | (cases hc; done) | (simp only [Option.some.injEq] at hc; subst hc; exact absurd rfl hk)
    · rename_i hcal
      split at hc
      · rename_i t x ht hx
        split at hc
        · rename_i e0 x' hu hx'
          simp only [Option.some.injEq] at hc; subst hc
          simp only [SK.opnds, List.map_cons, List.map_nil, effM] at he
          have ax := fun h => eval_of hs hx' h
          split at he
          · rename_i hvs
            simp only [List.cons.injEq, and_true] at hvs
            simp only [Option.some.injEq, Prod.mk.injEq] at he
            obtain ⟨_, rfl⟩ := he
            rw [hvs] at ax
            exact yld_sound hs hd (len_yld (L := 0) ho hcal ht hx (.inl ⟨e0, _, _, hu, (ax (by simp)).nil_inv⟩)) (app_val happ) hK
          · rename_i v h1 hvs
            simp only [List.cons.injEq, and_true] at hvs
            obtain ⟨r, hr, he⟩ := Option.map_eq_some_iff.1 he
            simp only [Prod.mk.injEq] at he
            obtain ⟨_, rfl⟩ := he
            have hne : v ≠ .unk := by intro hh; rw [hh] at hr; simp [rowAt] at hr
            rw [hvs] at ax
            refine yld_sound hs hd (len_yld (L := r.len) ho hcal ht hx (.inl ?_)) (app_val happ) hK
            rcases row_read hs hr (ax hne) with ⟨⟨ad, cc, q1, _⟩, q2, _⟩ | ⟨b, q, c, vs, q1, _⟩
            · exact ⟨e0, _, _, hu, by rw [q2]; exact q1⟩
            · exact ⟨e0, _, _, hu, q1⟩
          · cases he
        · rename_i x' hu hx'
          simp only [Option.some.injEq] at hc; subst hc
          simp only [SK.opnds, List.map_cons, List.map_nil, effM] at he
          have ax := fun h => eval_of hs hx' h
          split at he
          · rename_i q hvs
            simp only [List.cons.injEq, and_true] at hvs
            simp only [Option.some.injEq, Prod.mk.injEq] at he
            obtain ⟨_, rfl⟩ := he
            rw [hvs] at ax
            exact yld_sound hs hd (len_yld (L := q.length) ho hcal ht hx (.inr ⟨_, hu, (ax (by simp)).str_inv, by simp [ByteArray.size]⟩)) (app_val happ) hK
          · cases he
        · cases hc
      · cases hc
    · rename_i hcal
      split at hc
      · rename_i t t' x y ht hx
        split at hc
        · rename_i e0 x' y' hu hx' hy'
          split at hc
          · rename_i z i r0 hz hi hr0
            split at hc
            · rename_i hcond
              obtain ⟨rfl, h2, h3⟩ := hcond
              simp only [Option.some.injEq] at hc; subst hc
              simp only [SK.opnds, List.map_cons, List.map_nil] at he
              rw [hi] at hz
              simp only [Option.bind_some] at hz
              exact app_sound hs hd ho hcal ht hx hx' hy' hu hi hz hr0 h2 h3 he hp happ hK
            · split at hc
              · rename_i hstr
                simp only [Option.some.injEq] at hc; subst hc
                simp only [SK.opnds, List.map_cons, List.map_nil] at he
                rw [hi] at hz
                simp only [Option.bind_some] at hz
                exact apps_sound hs hd ho hcal ht hx hx' hy' hu hi hz hr0 hstr he hp happ hK
              · cases hc
          · cases hc
        · cases hc
      · cases hc
    · rename_i hcal
      split at hc
      · rename_i t t' x y ht hx
        split at hc
        · rename_i e0 x' y' hu hx' hy'
          split at hc
          · rename_i k0 l0 hr0
            simp only [Option.some.injEq] at hc; subst hc
            simp only [SK.opnds, List.map_cons, List.map_nil, effM] at he
            split at he
            case h_2 => cases he
            rename_i d g e1 k l a0 n0 q k' xs hdst hsrc
            split at he
            case isFalse => cases he
            rename_i hkk
            subst hkk
            simp only [Option.some.injEq, Prod.mk.injEq] at he
            obtain ⟨rfl, rfl⟩ := he
            have := app_set happ
            subst this
            exact cpy_sound hs hd ho hcal ht hx hx' hy' hu hr0 rfl hdst hsrc hp.2 hp.1 hK
          · cases hc
        · cases hc
      · cases hc
    · cases hc
  · rename_i t x i ho
    split at hc
    · rename_i e0 x' i' hu hx hi
      split at hc
      · rename_i r0 hr0
        simp only [Option.some.injEq] at hc; subst hc
        simp only [SK.opnds, List.map_cons, List.map_nil, effM] at he
        split at he
        · rename_i d g kk ii hvs
          simp only [List.cons.injEq, and_true] at hvs
          obtain ⟨e1, e2⟩ := hvs
          split at he
          case h_2 => cases he
          rename_i r hr
          split at he
          case isFalse => cases he
          rename_i hsz
          simp only [Option.some.injEq, Prod.mk.injEq] at he
          obtain ⟨rfl, rfl⟩ := he
          rw [hsz] at happ
          exact yld_sound hs hd ((idx_yld hs hx hi hu hr0 e2 (by rw [e1]; exact hr) hsz.symm hp ho).1 d g e1) (app_val happ) hK
        · rename_i r kk ii hvs
          simp only [List.cons.injEq, and_true] at hvs
          obtain ⟨e1, e2⟩ := hvs
          split at he
          case isFalse => cases he
          rename_i hsz
          simp only [Option.some.injEq, Prod.mk.injEq] at he
          obtain ⟨rfl, rfl⟩ := he
          exact yld_sound hs hd ((idx_yld hs hx hi hu hr0 e2 (by rw [e1]; rfl) hsz.symm hp ho).2 e1) (app_val happ) hK
        · cases he
      · cases hc
    · split at hc
      · split at hc
        · simp only [Option.some.injEq] at hc; subst hc; exact absurd rfl hk
        · cases hc
      · cases hc
    · cases hc
  · split at hc
    · simp only [Option.some.injEq] at hc; subst hc; exact absurd rfl hk
    · split at hc <;> first | (cases hc; done) | (simp only [Option.some.injEq] at hc; subst hc; exact absurd rfl hk)
    · cases hc
  · rename_i t x lo hi ho
    split at hc
    · rename_i e0 x' lo' hi' hu hx hlo hhi
      split at hc
      · rename_i r0 hr0
        simp only [Option.some.injEq] at hc; subst hc
        simp only [SK.opnds, List.map_cons, effM] at he
        split at he
        · rename_i vs hvs
          simp only [List.cons.injEq] at hvs
          obtain ⟨e1, rfl⟩ := hvs
          obtain ⟨⟨l, h⟩, hb, he⟩ := Option.map_eq_some_iff.1 he
          simp only [Prod.mk.injEq] at he
          obtain ⟨rfl, rfl⟩ := he
          exact yld_sound hs hd (subN_yld hs hx hlo hhi hu hr0 e1 hb hp.1 hp.2 ho) (app_val happ) hK
        · rename_i y vs hny hvs
          simp only [List.cons.injEq] at hvs
          obtain ⟨rfl, rfl⟩ := hvs
          split at he
          case h_2 => cases he
          rename_i r hr
          split at he
          case isFalse => cases he
          rename_i hcond
          obtain ⟨⟨l, h⟩, hb, he⟩ := Option.map_eq_some_iff.1 he
          simp only [Prod.mk.injEq] at he
          obtain ⟨rfl, rfl⟩ := he
          have := app_set happ
          subst this
          exact sub_sound hs hd hx hlo hhi hu hr0 hcond.1.symm hr hb hp.1 hp.2.1 hp.2.2 ho hK
        · cases he
      · cases hc
    · simp only [Option.some.injEq] at hc; subst hc; exact absurd rfl hk
    · cases hc
  · rename_i t len ps ho
    split at hc
    · rename_i e0 hu
      split at hc
      · rename_i z j r0 hz hj hr0
        split at hc
        · rename_i qs hq
          split at hc
          · rename_i hcond
            simp only [Option.some.injEq] at hc
            split at hc
            · subst hc
              simp only [SK.opnds, effM] at he
              split at he
              · rename_i cs hf
                obtain ⟨r, hr, he⟩ := Option.map_eq_some_iff.1 he
                simp only [Prod.mk.injEq] at he
                obtain ⟨_, rfl⟩ := he
                obtain ⟨hfr, rfl⟩ := app_eq0 happ
                exact litf_sound hs hd ho hu hz hj hr0 hcond.1 hcond.2 hq hf hr (hfr _ (List.mem_singleton.2 rfl)) hK
              · cases he
            subst hc
            simp only [SK.opnds, effM] at he
            split at he
            · rename_i cs hf
              obtain ⟨r, hr, he⟩ := Option.map_eq_some_iff.1 he
              simp only [Prod.mk.injEq] at he
              obtain ⟨_, rfl⟩ := he
              obtain ⟨hfr, rfl⟩ := app_new happ
              exact lit_sound hs hd ho hu hz hj hr0 hcond.1 hcond.2 hq hf hr hfr hK
            · cases he
          · cases hc
        · cases hc
      · cases hc
    · cases hc
  · rename_i t l c ho
    split at hc
    · rename_i e0 l' c' hu hl hcc
      split at hc
      · rename_i z j r0 hz hj hr0
        split at hc
        · rename_i hcond
          simp only [Option.some.injEq] at hc; subst hc
          simp only [SK.opnds, List.map_cons, List.map_nil, effM] at he
          split at he
          · rename_i k1 li k2 ci hvs
            simp only [List.cons.injEq, and_true] at hvs
            obtain ⟨e1, e2⟩ := hvs
            obtain ⟨r, hr, he⟩ := Option.map_eq_some_iff.1 he
            simp only [Prod.mk.injEq] at he
            obtain ⟨rfl, rfl⟩ := he
            obtain ⟨hfr, rfl⟩ := app_new happ
            exact mk_sound hs hd hl hcc ho hu hz hj hr0 hcond.1 hcond.2 e1 e2 hp.1 hp.2.1 hp.2.2 hr hfr hK
          · cases he
        · cases hc
      · cases hc
    · cases hc
  · cases hc
end
end Go.Proofs.Ytgklfolmlcfjgaa.Y
