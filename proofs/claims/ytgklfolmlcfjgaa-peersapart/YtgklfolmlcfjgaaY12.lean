/- The symbolic walk is sound: the last part: regions, code, functions. -/
import Derived.Test.YtgklfolmlcfjgaaY11
namespace Go.Proofs.Ytgklfolmlcfjgaa.Y
open Go.RowKit
set_option linter.unusedSimpArgs false
set_option linter.unusedVariables false
section
variable {P : Program} {n : Nat} {W : Wd} {A0 : Nat → Prop} {Γ : Gam} {fz : Bool} {vs : List (Nat × Nat)}

theorem wp_inh {o : Oper} {a : Act} {w : World} {K : Act → World → Prop} (h : o.wp P a w K fun _ _ _ => False) : ∃ a' w', K a' w' := by
  unfold Oper.wp at h
  generalize (execOp a.eval o).run P w = r at h
  cases r with
  | ok x w' =>
    cases x <;> simp only [Oper.upon] at h
    case value v => exact ⟨_, _, h⟩
    case skip => exact ⟨_, _, h⟩
    case defer d => exact ⟨_, _, h⟩
    case enter f args =>
      obtain ⟨e, w'', fr, hR, _⟩ := h []
      cases e with
      | returned v => exact ⟨_, _, hR⟩
      | panicked c => exact hR.elim
      | outgrown => exact (let ⟨_, _, h⟩ := hR; h.elim)
    case row r args =>
      obtain ⟨v, w'', hR, _⟩ := h default []
      exact ⟨_, _, hR⟩
  | halt x w' => cases x <;> simp only [Oper.upon] at h

def Inh (n : Nat) (W : Wd) (A0 : Nat → Prop) (s : St) : Prop := ∃ a w, Sim n W A0 s a w
theorem Inh.wf {s : St} (h : Inh n W A0 s) : ∀ t, ∀ d ∈ (s.fr t).labs, (s.mem d).isFresh = false := by
  obtain ⟨a, w, β, σ, hs⟩ := h
  exact hs.lab

theorem mapM_get {α β : Type} {f : α → Option β} : ∀ {l : List α} {r : List β}, l.mapM f = some r → ∀ i : Nat, r[i]? = l[i]?.bind f
  | [], r, h, i => by simp at h; subst h; simp
  | x :: l, r, h, i => by
    simp only [List.mapM_cons, Option.bind_eq_bind, Option.pure_def, Option.bind_eq_some_iff] at h
    obtain ⟨y, hy, r', hr', he⟩ := h
    simp only [Option.some.injEq] at he
    subst he
    cases i with
    | zero => simp [hy]
    | succ i => simpa using mapM_get hr' i

/-- The region's operations, and what they were written anew as. -/
structure RegOk (P : Program) (n : Nat) (W : Wd) (fz : Bool) (vs : List (Nat × Nat)) (ops : Array Oper) (ss : List SOp) : Prop where
  get : ∀ i : Nat, ss[i]? = ops[i]?.bind (cOper P fz vs ops)
  len : ss.length = ops.size
  dst : ∀ s ∈ ss, ∀ d, s.dst = some d → W.okd n d

theorem cOper_spec {fz : Bool} {vs : List (Nat × Nat)} {ops : Array Oper} {o : Oper} {so : SOp} (h : cOper P fz vs ops o = some so) : (∃ k, cOp P fz o = some k ∧ k.bare = true ∧ ∃ b b2, so.k = (k.ann (opLab vs ops o)).letz b b2) ∧ so.dst = o.dst ∧
    ((o.guard = none ∧ so.g = none) ∨ ∃ j want g, o.guard = some (j, want) ∧ (ops[j]?).bind (·.dst) = some g ∧ so.g = some (g, want)) := by
  unfold cOper at h
  split at h
  · cases h
  · rename_i k hk
    split at h
    · cases h
    rename_i hbare
    have hbare : k.bare = true := by simpa using hbare
    split at h
    · rename_i hg
      simp only [Option.some.injEq] at h; subst h
      exact ⟨⟨k, hk, hbare, _, _, rfl⟩, rfl, .inl ⟨hg, rfl⟩⟩
    · rename_i j want hg
      split at h
      · rename_i g hj
        simp only [Option.some.injEq] at h; subst h
        exact ⟨⟨k, hk, hbare, _, _, rfl⟩, rfl, .inr ⟨j, want, g, hg, hj, rfl⟩⟩
      · cases h

/-- What the text foretells asks more, and says the same. -/
theorem eff_ann {lab : Nat} {k : SK} (hb : k.bare = true) {L : Option Nat} {us : List SV} {m : Nat → Cel} {r : Prop × Eff} (h : eff Γ lab (k.ann L) us m = some r) : eff Γ lab k us m = some r := by
  cases k
  case load n x L' =>
    cases L' with
    | some l => simp [SK.bare] at hb
    | none =>
      simp only [SK.ann, eff, SK.pure, Bool.false_eq_true, if_false, effM] at h ⊢
      split at h
      · split at h
        · simpa [labOk] using h
        · cases h
      · split at h
        · simpa using h
        · cases h
      · split at h
        · simpa using h
        · cases h
      · split at h
        · simpa using h
        · cases h
      · cases h
  case store n x v L' =>
    cases L' with
    | some l => simp [SK.bare] at hb
    | none =>
      simp only [SK.ann, eff, SK.pure, Bool.false_eq_true, if_false, effM] at h ⊢
      split at h
      · split at h
        · simpa [labOk] using h
        · cases h
      · split at h
        · simpa using h
        · cases h
      · cases h
  all_goals exact h
theorem opnds_ann (k : SK) (L : Option Nat) : (k.ann L).opnds = k.opnds := by cases k <;> rfl

theorem letz_cases (k : SK) (b b2 : Bool) : k.letz b b2 = k ∨ (∃ e len r z ps, k = .lit e len r z ps ∧ k.letz b b2 = .litz e len r z ps) ∨ (∃ e len r z ps, k = .litf e len r z ps ∧ k.letz b b2 = .litg e len r z ps) ∨ ∃ f sz x lo hi, k = .sub f sz x lo hi ∧ k.letz b b2 = .part sz x lo hi := by
  cases k <;> simp only [SK.letz, true_or]
  case lit e len r z ps =>
    cases b
    · exact .inl rfl
    · exact .inr (.inl ⟨_, _, _, _, _, rfl, rfl⟩)
  case litf e len r z ps =>
    cases b
    · exact .inl rfl
    · exact .inr (.inr (.inl ⟨_, _, _, _, _, rfl, rfl⟩))
  case sub f sz x lo hi =>
    cases b2
    · exact .inl rfl
    · exact .inr (.inr (.inr ⟨_, _, _, _, _, rfl, rfl⟩))
theorem ann_litf {k : SK} {L : Option Nat} {e len : Nat} {r : Row SV} {z : List SV} {ps : List (Nat × Nat × SO)} (h : k.ann L = .litf e len r z ps) : k = .litf e len r z ps := by
  cases k <;> simp only [SK.ann] at h <;> first | exact h | cases h
theorem setL_swap {lab : Nat} {c : Cel} : ∀ (l : List (Nat × Cel)) (s : St), (∀ q ∈ l, q.1 ≠ lab) → setL (s.setm lab c) l = (setL s l).setm lab c
  | [], _, _ => rfl
  | (d, x) :: l, s, h => by
    have hd : d ≠ lab := h _ (List.mem_cons_self ..)
    have e : (s.setm lab c).setm d x = (s.setm d x).setm lab c := by
      simp only [St.setm]
      congr 1
      funext t
      by_cases h1 : t = d
      · subst h1; simp [setM, hd]
      · by_cases h2 : t = lab
        · subst h2; simp [setM, h1]
        · simp [setM, h1, h2]
    rw [setL, setL, e]
    exact setL_swap l (s.setm d x) fun q hq => h q (List.mem_cons_of_mem _ hq)
theorem setm_twice (s : St) (lab : Nat) (c1 c2 : Cel) : (s.setm lab c1).setm lab c2 = s.setm lab c2 := by
  simp only [St.setm]
  congr 1
  funext t
  by_cases h : t = lab
  · subst h; simp [setM]
  · simp [setM, h]
theorem put_setm (s : St) (dst : Option Nat) (v : SV) (lab : Nat) (c : Cel) : (s.put dst v).setm lab c = (s.setm lab c).put dst v := by cases dst <;> rfl
theorem ann_sub {k : SK} {L : Option Nat} {f : Bool} {sz : Nat} {x : SO} {lo hi : Option SO} (h : k.ann L = .sub f sz x lo hi) : k = .sub f sz x lo hi := by
  cases k <;> simp only [SK.ann] at h <;> first | exact h | cases h
theorem ann_lit {k : SK} {L : Option Nat} {e len : Nat} {r : Row SV} {z : List SV} {ps : List (Nat × Nat × SO)} (h : k.ann L = .lit e len r z ps) : k = .lit e len r z ps := by
  cases k <;> simp only [SK.ann] at h <;> first | exact h | cases h
theorem litz_word {s : St} {dst : Option Nat} {lab : Nat} {r' : Row SV} {a : Act} {w : World} {β : Nat → Nat} {σ : Nat → Sl} (h2 : SimW n W A0 (s.put dst (.sl lab 0)) a w β σ) (hm : s.mem lab = .frow 0 r') : SimW n W A0 (s.put dst (.rw r')) a w β σ := by
  cases dst with
  | none => exact h2
  | some d =>
    refine ⟨h2.size, h2.defers, h2.bel, fun t ht => ?_, h2.mem, h2.sep, h2.low⟩
    simp only [St.put] at ht ⊢
    by_cases h : t = d
    · subst h
      simp only [if_true]
      obtain ⟨v, hv, hi⟩ := h2.fr t (by simp [St.put])
      have hi' : Is (env A0 (s.put (some t) (.sl lab 0)) w β σ) (.sl lab 0) v := by simpa [St.put] using hi
      refine ⟨v, hv, ?_⟩
      have hval := sl_val h2 hi' (by show (s.mem lab).ver = some 0; rw [hm]; rfl)
      have hc := h2.mem lab
      have hc' : CelOk W (env A0 (s.put (some t) (.sl lab 0)) w β σ) lab (.frow 0 r') := by
        have e : (s.put (some t) (.sl lab 0)).mem lab = .frow 0 r' := hm
        rw [← e]; exact hc
      rw [hval]
      exact hc'
    · simp only [h, if_false] at ht ⊢
      have e : (s.put (some d) (.sl lab 0)).fr t = s.fr t := by simp [St.put, h]
      have := h2.fr t (by rw [e]; exact ht)
      rw [e] at this
      exact this
theorem litz_sound (hΓ : GamOk P Γ) {fz : Bool} {o : Oper} {e len : Nat} {r : Row SV} {z : List SV} {ps : List (Nat × Nat × SO)} (hk : cOp P fz o = some (.lit e len r z ps)) {s : St} {a : Act} {w : World} {β : Nat → Nat} {σ : Nat → Sl} (hs : SimW n W A0 s a w β σ) (hd : ∀ d, o.dst = some d → W.okd n d) {lab : Nat} {p : Prop} {ef : Eff}
    (he : eff Γ lab (.litz e len r z ps) ((SK.litz e len r z ps).opnds.map (SO.ev s)) s.mem = some (p, ef)) {s' : St} (happ : app o.dst s ef = some s') {K : Act → World → Prop} {Q : Exit → Act → World → Prop} (hK : ∀ a' w', Sim n W A0 s' a' w' → K a' w') : o.wp P a w K Q := by
  simp only [eff, SK.pure, Bool.false_eq_true, if_false, effM, SK.opnds] at he
  split at he
  · rename_i cs hcs
    obtain ⟨r', hr, he⟩ := Option.map_eq_some_iff.1 he
    simp only [Prod.mk.injEq] at he
    obtain ⟨_, rfl⟩ := he
    obtain ⟨hf, rfl⟩ := app_new happ
    refine op_sound hΓ hk hs hd (lab := lab) (p := True) (e := ⟨.sl lab 0, [(lab, .row 0 e r')], []⟩) ?_ trivial (s' := (s.setm lab (.row 0 e r')).put o.dst (.sl lab 0)) ?_ fun a' w' hS => hK a' w' ?_
    · simp only [eff, SK.pure, Bool.false_eq_true, if_false, effM, SK.opnds, hcs, hr, Option.map_some]
    · simp [app, hf, setL]
    · obtain ⟨β', σ', hS⟩ := hS
      have hm : ((s.setm lab (.row 0 e r')).put o.dst (.sl lab 0)).mem lab = .row 0 e r' := by rw [mem_put]; simp [St.setm, setM]
      have h2 := (freeze hS hm).2
      have e2 : (((s.setm lab (.row 0 e r')).put o.dst (.sl lab 0)).setm lab (.frow 0 r')) = (s.setm lab (.frow 0 r')).put o.dst (.sl lab 0) := by
        have e3 : ∀ c1 c2 : Cel, setM (setM s.mem lab c1) lab c2 = setM s.mem lab c2 := fun c1 c2 => by
          funext t
          by_cases ht : t = lab
          · subst ht; simp [setM]
          · simp [setM, ht]
        cases o.dst <;> simp only [St.put, St.setm, e3]
      rw [e2] at h2
      exact ⟨_, _, litz_word h2 (by simp [St.setm, setM])⟩
  · cases he

theorem litg_sound (hΓ : GamOk P Γ) {fz : Bool} {o : Oper} {e len : Nat} {r : Row SV} {z : List SV} {ps : List (Nat × Nat × SO)} (hk : cOp P fz o = some (.litf e len r z ps)) {s : St} {a : Act} {w : World} {β : Nat → Nat} {σ : Nat → Sl} (hs : SimW n W A0 s a w β σ) (hd : ∀ d, o.dst = some d → W.okd n d) {lab : Nat} {p : Prop} {ef : Eff}
    (he : eff Γ lab (.litg e len r z ps) ((SK.litg e len r z ps).opnds.map (SO.ev s)) s.mem = some (p, ef)) {s' : St} (happ : app o.dst s ef = some s') {K : Act → World → Prop} {Q : Exit → Act → World → Prop} (hK : ∀ a' w', Sim n W A0 s' a' w' → K a' w') : o.wp P a w K Q := by
  simp only [eff, SK.pure, Bool.false_eq_true, if_false, effM, SK.opnds] at he
  split at he
  · rename_i cs hcs
    obtain ⟨r', hr, he⟩ := Option.map_eq_some_iff.1 he
    simp only [Prod.mk.injEq] at he
    obtain ⟨_, rfl⟩ := he
    have hf : (s.mem lab).isFresh = true := by
      unfold app at happ
      split at happ
      · rename_i hh; simpa using hh
      · cases happ
    simp only [app, List.all_cons, List.all_nil, hf, Bool.and_true, if_true, Option.some.injEq, List.cons_append, List.nil_append, setL] at happ
    subst happ
    generalize hO : ((ps.map (·.2.2)).map (SO.ev s)).flatMap (own1 s.mem) = O at *
    have hne : ∀ q ∈ O, q.1 ≠ lab := fun q hq => by
      rw [← hO] at hq
      obtain ⟨v, _, hv⟩ := List.mem_flatMap.1 hq
      have h1 := own1_fz v q hv
      intro he
      rw [← he] at hf
      obtain ⟨g, r, _, h2 | h2⟩ := h1
      · obtain ⟨e', h2⟩ := h2
        rw [h2] at hf; cases hf
      · rw [h2] at hf; cases hf
    refine op_sound hΓ hk hs hd (lab := lab) (p := True) (e := ⟨.sl lab 0, [(lab, .row 0 e r')], O⟩) ?_ trivial (s' := (setL (s.setm lab (.row 0 e r')) O).put o.dst (.sl lab 0)) ?_ fun a' w' hS => hK a' w' ?_
    · simp only [eff, SK.pure, Bool.false_eq_true, if_false, effM, SK.opnds, hcs, hr, Option.map_some, hO]
    · simp [app, hf, setL]
    · obtain ⟨β', σ', hS⟩ := hS
      have hm : ((setL (s.setm lab (.row 0 e r')) O).put o.dst (.sl lab 0)).mem lab = .row 0 e r' := by rw [mem_put, setL_swap O s hne]; simp [St.setm, setM]
      have h2 := (freeze hS hm).2
      rw [put_setm, setL_swap O s hne, setm_twice, ← setL_swap O s hne] at h2
      exact ⟨_, _, litz_word h2 (by rw [setL_swap O s hne]; simp [St.setm, setM])⟩
  · cases he
theorem cOp0_sub {fz f : Bool} {o : Oper} {sz : Nat} {x' : SO} {lo' hi' : Option SO} (h : cOp0 P fz o = some (.sub f sz x' lo' hi')) : ∃ t x lo hi e r0, o.op = .slice t x lo hi none ∧ cO x = some x' ∧ cOpt lo = some lo' ∧ cOpt hi = some hi' ∧ P.underlying t = some (.slice e) ∧ row0 P e = some r0 ∧ sz = r0.size := by
  unfold cOp0 at h
  split at h
  all_goals try (repeat' split at h)
  all_goals try (simp at h; done)
  simp only [Option.some.injEq, SK.sub.injEq] at h
  obtain ⟨rfl, rfl, rfl, rfl, rfl⟩ := h
  exact ⟨_, _, _, _, _, _, by assumption, by assumption, by assumption, by assumption, by assumption, by assumption, rfl⟩
theorem part_sound {fz f : Bool} {o : Oper} {sz : Nat} {x' : SO} {lo' hi' : Option SO} (hk : cOp P fz o = some (.sub f sz x' lo' hi')) {s : St} {a : Act} {w : World} {β : Nat → Nat} {σ : Nat → Sl} (hs : SimW n W A0 s a w β σ) (hd : ∀ d, o.dst = some d → W.okd n d) {lab : Nat} {p : Prop} {ef : Eff}
    (he : eff Γ lab (.part sz x' lo' hi') ((SK.part sz x' lo' hi').opnds.map (SO.ev s)) s.mem = some (p, ef)) (hp : p) {s' : St} (happ : app o.dst s ef = some s') {K : Act → World → Prop} {Q : Exit → Act → World → Prop} (hK : ∀ a' w', Sim n W A0 s' a' w' → K a' w') : o.wp P a w K Q := by
  simp only [eff, SK.pure, Bool.false_eq_true, if_false, effM, SK.opnds, List.map_cons] at he
  split at he
  case h_2 => cases he
  rename_i d g us hvs
  simp only [List.cons.injEq] at hvs
  obtain ⟨ex, rfl⟩ := hvs
  split at he
  case h_2 => cases he
  rename_i g' e' k l hm
  split at he
  case isFalse => cases he
  rename_i hg
  obtain ⟨rfl, rfl⟩ := hg
  obtain ⟨⟨b1, b2⟩, hb, he⟩ := Option.map_eq_some_iff.1 he
  simp only [Prod.mk.injEq] at he
  obtain ⟨rfl, rfl⟩ := he
  obtain ⟨hpos, h0, h1, h2⟩ := hp
  unfold cOp at hk
  simp only [Option.some.injEq] at hk
  cases hc : cOp0 P fz o with
  | none => rw [hc] at hk; cases hk
  | some k1 =>
    rw [hc] at hk
    simp only [Option.getD_some] at hk
    subst hk
    obtain ⟨t, x, lo, hi, e, r0, ho, hx, hlo, hhi, hu, hr0, hsz⟩ := cOp0_sub hc
    exact yld_sound hs hd (part_yld hs hx hlo hhi hu hr0 hsz.symm ex hm hb hpos h0 h1 h2 ho) (app_val happ) hK

/-- One operation, as the model carries it out, guard and all. -/
theorem stp_sound (hΓ : GamOk P Γ) {ops : Array Oper} {ss : List SOp} (hr : RegOk P n W fz vs ops ss) {i : Nat} {so : SOp} (hi : ss[i]? = some so) {lab : Nat} {s s' : St} (hst : Stp Γ lab so s s') {a : Act} {w : World} (hs : Sim n W A0 s a w) {K : Act → World → Prop} {Q : Exit → Act → World → Prop}
    (hK : ∀ a' w', Sim n W A0 s' a' w' → K a' w') : wpOp P ops Q i K a w ∧ Inh n W A0 s' := by
  obtain ⟨β, σ, hs⟩ := hs
  have hg := hr.get i
  rw [hi] at hg
  obtain ⟨o, ho, hco⟩ := Option.bind_eq_some_iff.1 hg.symm
  obtain ⟨⟨k0, hk, hbare, bz, bp, hkk⟩, hdst, hguard⟩ := cOper_spec hco
  have hd : ∀ d, o.dst = some d → W.okd n d := fun d hd => hr.dst so (List.mem_of_getElem? hi) d (by rw [hdst, hd])
  obtain ⟨e, hout, happ⟩ := hst
  rw [hdst] at happ
  unfold wpOp
  simp only [ho]
  have yes : (∃ p, eff Γ lab so.k (so.k.opnds.map (SO.ev s)) s.mem = some (p, e) ∧ p) → Region.wanted o (yielded ops a.tmps) = true →
      (if Region.wanted o (yielded ops a.tmps) = true then o.wp P a w K Q ∨ (o.asks P a w ∧ LetsOut Q) else K (a.put o.dst undef) w) ∧ Inh n W A0 s' := fun ⟨p, he, hp⟩ hw => by
    rw [if_pos hw]
    rw [hkk] at he
    rcases letz_cases (k0.ann (opLab vs ops o)) bz bp with hz | ⟨e1, e2, e3, e4, e5, hz0, hz⟩ | ⟨e1, e2, e3, e4, e5, hz0, hz⟩ | ⟨e1, e2, e3, e4, e5, hz0, hz⟩
    case inr.inr.inl =>
      rw [hz] at he
      have hk1 := ann_litf hz0
      subst hk1
      exact ⟨.inl (litg_sound hΓ hk hs hd he happ hK), wp_inh (litg_sound hΓ hk hs hd he happ fun _ _ h => h)⟩
    case inr.inr.inr =>
      rw [hz] at he
      have hk1 := ann_sub hz0
      subst hk1
      exact ⟨.inl (part_sound hk hs hd he hp happ hK), wp_inh (part_sound hk hs hd he hp happ fun _ _ h => h)⟩
    case inr.inl =>
      rw [hz] at he
      have hk1 := ann_lit hz0
      subst hk1
      exact ⟨.inl (litz_sound hΓ hk hs hd he happ hK), wp_inh (litz_sound hΓ hk hs hd he happ fun _ _ h => h)⟩
    rw [hz, opnds_ann] at he
    replace he := eff_ann hbare he
    exact ⟨.inl (op_sound hΓ hk hs hd he hp happ hK), wp_inh (op_sound hΓ hk hs hd he hp happ fun _ _ h => h)⟩
  have no : e = .val (.tup []) → Region.wanted o (yielded ops a.tmps) = false →
      (if Region.wanted o (yielded ops a.tmps) = true then o.wp P a w K Q ∨ (o.asks P a w ∧ LetsOut Q) else K (a.put o.dst undef) w) ∧ Inh n W A0 s' := fun he hw => by
    subst he
    simp only [app, Eff.val, setL, List.all_nil, if_true, List.append_nil, Option.some.injEq] at happ
    subst happ
    have hs' : Sim n W A0 (s.put o.dst (.tup [])) (a.put o.dst undef) w := ⟨β, σ, hs.put o.dst hd (.inr tup0)⟩
    rw [hw]
    exact ⟨hK _ _ hs', _, _, hs'⟩
  unfold Out at hout
  rcases hguard with ⟨hg0, hg1⟩ | ⟨j, want, g, hg0, hgj, hg1⟩
  · rw [hg1] at hout
    exact yes hout (by simp [Region.wanted, hg0])
  · rw [hg1] at hout
    simp only at hout
    have hy : ∀ v, s.fr g = v → v ≠ .unk → ∃ u, Is (env A0 s w β σ) v u ∧ yielded ops a.tmps j = (match u with | .bool b => some b | _ => none) := fun v hv hu => by
      obtain ⟨u, h1, h2⟩ := hs.fr g (by rw [hv]; exact hu)
      rw [hv] at h2
      refine ⟨u, h2, ?_⟩
      unfold yielded
      rw [hgj]
      simp only [Option.bind_some, h1]
      cases u <;> rfl
    rcases hout with ⟨hb, hy'⟩ | ⟨hb, he⟩
    · refine yes hy' ?_
      obtain ⟨u, h1, h2⟩ := hy _ hb (by simp)
      rw [h1.bool_inv] at h2
      simp [Region.wanted, hg0, h2]
    · refine no he ?_
      rcases hb with hb | hb
      · obtain ⟨u, h1, h2⟩ := hy _ hb (by simp)
        rw [h1.bool_inv] at h2
        simp only [Region.wanted, hg0, h2]
        cases want <;> rfl
      · obtain ⟨u, h1, h2⟩ := hy _ hb (by simp)
        obtain ⟨us, rfl, hu⟩ := h1.tup_inv
        simp [Region.wanted, hg0, h2]

/-- In the order of the text. -/
theorem ops_sound (hΓ : GamOk P Γ) {ops : Array Oper} {ss : List SOp} (hr : RegOk P n W fz vs ops ss) {base : Nat} {t : St} {Q : Exit → Act → World → Prop} (hQ : ∀ a w, Sim n W A0 t a w → Q .normal a w) :
    ∀ (L : List Nat) (s : St) (a : Act) (w : World), RunI Γ base ss L s t → Sim n W A0 s a w → wpOps P ops Q L a w
  | [], s, a, w, h, hs => by simp only [RunI] at h; subst h; exact hQ a w hs
  | i :: L, s, a, w, ⟨o, s', ho, hst, h⟩, hs => by
    rw [wpOps_cons]
    exact (stp_sound hΓ hr ho hst hs fun a' w' hs' => ops_sound hΓ hr hQ L s' a' w' h hs').1

/-- Number i to the front. -/
theorem run_front (hΓ : GamOk P Γ) {ops : Array Oper} {ss : List SOp} (hr : RegOk P n W fz vs ops ss) {base i : Nat} {t : St} {so : SOp} (hi : ss[i]? = some so) :
    ∀ (pre post : List Nat) (s : St), Inh n W A0 s → (∀ j ∈ pre, j ≠ i ∧ ∃ sj, ss[j]? = some sj ∧ sj.comm so = true) → RunI Γ base ss (pre ++ i :: post) s t → RunI Γ base ss (i :: (pre ++ post)) s t
  | [], post, s, _, _, h => h
  | j :: pre, post, s, hs, hc, ⟨oj, s1, hoj, hst, h⟩ => by
    obtain ⟨a, w, hsim⟩ := hs
    have hin : Inh n W A0 s1 := (stp_sound (Q := fun _ _ _ => False) (K := fun _ _ => True) hΓ hr hoj hst hsim fun _ _ _ => trivial).2
    obtain ⟨oi, s2, hoi, hst2, h2⟩ := run_front hΓ hr hi pre post s1 hin (fun k hk => hc k (List.mem_cons_of_mem _ hk)) h
    obtain ⟨hne, sj, hsj, hcomm⟩ := hc j (List.mem_cons_self ..)
    rw [hoj] at hsj
    rw [hi] at hoi
    cases hsj; cases hoi
    obtain ⟨s1', h3, h4⟩ := swap (by omega) hcomm (Inh.wf (A0 := A0) ⟨a, w, hsim⟩) hst hst2
    exact ⟨so, s1', hi, h3, oj, s2, hoj, h4, h2⟩
end
end Go.Proofs.Ytgklfolmlcfjgaa.Y
