/- The second walk is sound: regions, in whatever order. -/
import Derived.Test.YtgklfolmlcfjgaaY10
namespace Go.Proofs.Ytgklfolmlcfjgaa.Y
open Go.RowKit
set_option linter.unusedSimpArgs false
set_option linter.unusedVariables false

/-- What an operation comes to in a state. -/
def Out (Γ : Gam) (lab : Nat) (o : SOp) (s : St) (e : Eff) : Prop :=
  match o.g with
  | none => ∃ p, eff Γ lab o.k (o.k.opnds.map (SO.ev s)) s.mem = some (p, e) ∧ p
  | some (g, want) => (s.fr g = .bool want ∧ ∃ p, eff Γ lab o.k (o.k.opnds.map (SO.ev s)) s.mem = some (p, e) ∧ p) ∨ ((s.fr g = .bool (!want) ∨ s.fr g = .tup []) ∧ e = .val (.tup []))
def Stp (Γ : Gam) (lab : Nat) (o : SOp) (s s' : St) : Prop := ∃ e, Out Γ lab o s e ∧ app o.dst s e = some s'
/-- These numbers, one after another. -/
def RunI (Γ : Gam) (base : Nat) (ss : List SOp) : List Nat → St → St → Prop
  | [], s, t => s = t
  | i :: L, s, t => ∃ o s', ss[i]? = some o ∧ Stp Γ (base + i) o s s' ∧ RunI Γ base ss L s' t

theorem put_self {s : St} {g : Nat} {v : SV} (h : s.fr g = v) : s.put (some g) v = s := by
  cases s with
  | mk fr mem =>
    simp only [St.put]
    congr 1
    funext t
    by_cases ht : t = g
    · subst ht; simp [← h]
    · simp [ht]

theorem vcOp_stp {Γ : Gam} {lab : Nat} {dst : Option Nat} {k : SK} {s : St} {K : St → Prop} (h : vcOp Γ lab dst k s K) : ∃ e s', (∃ p, eff Γ lab k (k.opnds.map (SO.ev s)) s.mem = some (p, e) ∧ p) ∧ app dst s e = some s' ∧ K s' := by
  unfold vcOp at h
  split at h
  · rename_i c x y
    split at h
    · rename_i t hc
      cases t <;> simp only [Bool.false_eq_true, if_true, if_false] at h
      · exact ⟨.val (y.ev s), _, ⟨True, by simp [eff, SK.pure, effP, SK.opnds, hc], trivial⟩, by simp [app, Eff.val, setL], h⟩
      · exact ⟨.val (x.ev s), _, ⟨True, by simp [eff, SK.pure, effP, SK.opnds, hc], trivial⟩, by simp [app, Eff.val, setL], h⟩
    · exact h.elim
  · split at h
    · rename_i p e he
      obtain ⟨hp, h⟩ := h
      split at h
      · rename_i s' hs'
        exact ⟨e, s', ⟨p, he, hp⟩, hs', h⟩
      · exact h.elim
    · exact h.elim

theorem vcOps_run {Γ : Gam} {base : Nat} {ss : List SOp} : ∀ (l : List SOp) (k : Nat) (s : St) (K : St → Prop), (∀ j, l[j]? = ss[k + j]?) → vcOps Γ l (base + k) s K → ∃ t, RunI Γ base ss (List.range' k l.length) s t ∧ K t
  | [], _, s, K, _, h => ⟨s, rfl, h⟩
  | ⟨dst, none, kk⟩ :: l, k, s, K, hl, h => by
    simp only [vcOps] at h
    obtain ⟨e, s', ho, happ, h'⟩ := vcOp_stp h
    obtain ⟨t, hr, hK⟩ := vcOps_run (base := base) (ss := ss) l (k + 1) s' K (fun j => by have := hl (j + 1); simpa [Nat.add_assoc, Nat.add_comm 1 j] using this) (by simpa [Nat.add_assoc] using h')
    exact ⟨t, ⟨⟨dst, none, kk⟩, s', by simpa using (hl 0).symm, ⟨e, ho, happ⟩, hr⟩, hK⟩
  | ⟨dst, some (g, want), kk⟩ :: l, k, s, K, hl, h => by
    simp only [vcOps] at h
    have h0 : ss[k]? = some ⟨dst, some (g, want), kk⟩ := by simpa using (hl 0).symm
    have hl' : ∀ j, l[j]? = ss[k + 1 + j]? := fun j => by have := hl (j + 1); simpa [Nat.add_assoc, Nat.add_comm 1 j] using this
    split at h
    · rename_i b hb
      by_cases hw : b = want
      · subst hw
        rw [if_pos rfl] at h
        obtain ⟨e, s', ho, happ, h'⟩ := vcOp_stp h
        rw [put_self hb] at ho happ
        obtain ⟨t, hr, hK⟩ := vcOps_run (base := base) (ss := ss) l (k + 1) s' K hl' (by simpa [Nat.add_assoc] using h')
        exact ⟨t, ⟨⟨dst, some (g, b), kk⟩, s', h0, ⟨e, .inl ⟨hb, ho⟩, happ⟩, hr⟩, hK⟩
      · have hb' : b = !want := by cases b <;> cases want <;> simp_all
        rw [if_neg hw, put_self (by rw [hb, hb'])] at h
        have h' := h
        obtain ⟨t, hr, hK⟩ := vcOps_run (base := base) (ss := ss) l (k + 1) _ K hl' (by simpa [Nat.add_assoc] using h')
        exact ⟨t, ⟨⟨dst, some (g, want), kk⟩, _, h0, ⟨_, .inr ⟨.inl (by rw [hb, hb']), rfl⟩, rfl⟩, hr⟩, hK⟩
    · rename_i hb
      obtain ⟨t, hr, hK⟩ := vcOps_run (base := base) (ss := ss) l (k + 1) _ K hl' (by simpa [Nat.add_assoc] using h)
      exact ⟨t, ⟨⟨dst, some (g, want), kk⟩, _, h0, ⟨_, .inr ⟨.inr hb, rfl⟩, rfl⟩, hr⟩, hK⟩
    · exact h.elim

/-! ### Two neighbours change places -/


theorem flatMap_congr' {α β : Type} {f g : α → List β} : ∀ {l : List α}, (∀ x ∈ l, f x = g x) → l.flatMap f = l.flatMap g
  | [], _ => rfl
  | x :: l, h => by
    rw [List.flatMap_cons, List.flatMap_cons, h x (List.mem_cons_self ..), flatMap_congr' fun y hy => h y (List.mem_cons_of_mem _ hy)]
theorem rowAt_congr {m m' : Nat → Cel} {x : SV} (h : ∀ d ∈ x.labs, m d = m' d) : rowAt m x = rowAt m' x := by
  cases x <;> try rfl
  rename_i d g
  simp only [rowAt]
  rw [h d (by simp [SV.labs])]
theorem resP_congr {m m' : Nat → Cel} {x : SV} (h : ∀ d ∈ x.labs, m d = m' d) : x.resP m = x.resP m' := by
  cases x <;> try rfl
  rename_i d g
  simp only [SV.resP]
  rw [h d (by simp [SV.labs])]
theorem res0_congr {m m' : Nat → Cel} {x : SV} (h : ∀ d ∈ x.labs, m d = m' d) : x.res0 m = x.res0 m' := by
  cases x <;> try rfl
  case sl d g => simp only [SV.res0]; rw [rowAt_congr h]
  case ptr d o => simp only [SV.res0]; exact resP_congr h
  case clo f cs =>
    simp only [SV.res0]
    rw [List.map_congr_left fun c hc => resP_congr fun d hd => h d (by rw [SV.labs]; exact mem_labsL hc hd)]
theorem res1_congr {m m' : Nat → Cel} {x : SV} (h : ∀ d ∈ x.labs, m d = m' d) : x.res1 m = x.res1 m' := by
  cases x
  case agg cs =>
    simp only [SV.res1]
    rw [List.map_congr_left fun c hc => res0_congr fun d hd => h d (by rw [SV.labs]; exact mem_labsL hc hd)]
  all_goals (simp only [SV.res1]; exact res0_congr h)
theorem own0_congr {m m' : Nat → Cel} {x : SV} (h : ∀ d ∈ x.labs, m d = m' d) : own0 m x = own0 m' x := by
  cases x <;> try rfl
  rename_i d g
  simp only [own0]
  rw [h d (by simp [SV.labs])]
theorem own1_congr {m m' : Nat → Cel} {x : SV} (h : ∀ d ∈ x.labs, m d = m' d) : own1 m x = own1 m' x := by
  cases x
  case agg cs =>
    simp only [own1]
    refine flatMap_congr' fun c hc => ?_
    exact own0_congr fun d hd => h d (by rw [SV.labs]; exact mem_labsL hc hd)
  all_goals (simp only [own1]; exact own0_congr h)
theorem go0_congr {m m' : Nat → Cel} {x : SV} (h : ∀ d ∈ x.labs, m d = m' d) : x.go0 m = x.go0 m' := by
  cases x <;> try rfl
  rename_i d g
  simp only [SV.go0]
  rw [rowAt_congr h]
theorem go1_congr {m m' : Nat → Cel} {x : SV} (h : ∀ d ∈ x.labs, m d = m' d) : x.go1 m = x.go1 m' := by
  cases x
  case agg cs =>
    simp only [SV.go1]
    congr 1
    exact List.map_congr_left fun c hc => go0_congr fun d hd => h d (by rw [SV.labs]; exact mem_labsL hc hd)
  all_goals exact go0_congr h
theorem effCall_congr {Γ : Gam} {lab f : Nat} {fz : Bool} {vs : List SV} {m m' : Nat → Cel} (h : ∀ v ∈ vs, ∀ d ∈ v.labs, m d = m' d) : effCall Γ lab f fz vs m = effCall Γ lab f fz vs m' := by
  have e1 : vs.map (SV.res1 m) = vs.map (SV.res1 m') := List.map_congr_left fun v hv => res1_congr (h v hv)
  have e2 : vs.flatMap (own1 m) = vs.flatMap (own1 m') := flatMap_congr' fun v hv => own1_congr (h v hv)
  unfold effCall
  rw [e1, e2]
theorem cpyDst_congr {m m' : Nat → Cel} {x : SV} (h : ∀ d ∈ x.labs, m d = m' d) : cpyDst m x = cpyDst m' x := by
  cases x <;> simp only [cpyDst]
  all_goals rw [h _ (by simp [SV.labs])]
theorem cpySrc_congr {m m' : Nat → Cel} {x : SV} (h : ∀ d ∈ x.labs, m d = m' d) : cpySrc m x = cpySrc m' x := by
  cases x
  case prt d g a l =>
    have e : rowAt m (.sl d g) = rowAt m' (.sl d g) := rowAt_congr fun d' hd => h d' (by simpa [SV.labs] using hd)
    simp only [cpySrc, e]
  all_goals
    simp only [cpySrc]
    rw [rowAt_congr h]
theorem effM_congr {Γ : Gam} {lab : Nat} {k : SK} {vs : List SV} {m m' : Nat → Cel} (h : ∀ v ∈ vs, ∀ d ∈ v.labs, m d = m' d) : effM Γ lab k vs m = effM Γ lab k vs m' := by
  have hr : ∀ x ∈ vs, rowAt m x = rowAt m' x := fun x hx => rowAt_congr (h x hx)
  have ho : ∀ x ∈ vs, own0 m x = own0 m' x := fun x hx => own0_congr (h x hx)
  have hd : ∀ d o, .ptr d o ∈ vs → m d = m' d := fun d o hm => h _ hm d (by simp [SV.labs])
  have hel : ∀ d g n i o, .elem d g n i o ∈ vs → m d = m' d := fun d g n i o hm => h _ hm d (by simp [SV.labs])
  have hsl : ∀ d g, .sl d g ∈ vs → m d = m' d := fun d g hm => h _ hm d (by simp [SV.labs])
  cases k <;> simp only [effM]
  case call f fz xs => rw [effCall_congr h]
  case callw f x =>
    split
    · rename_i d g; rw [hsl d g (by simp)]
    · rfl
  case litf e len r z ps =>
    have e1 : vs.map (SV.go1 m) = vs.map (SV.go1 m') := List.map_congr_left fun v hv => go1_congr (h v hv)
    have e2 : vs.flatMap (own1 m) = vs.flatMap (own1 m') := flatMap_congr' fun v hv => own1_congr (h v hv)
    rw [e1, e2]
  case litg e len r z ps =>
    have e1 : vs.map (SV.go1 m) = vs.map (SV.go1 m') := List.map_congr_left fun v hv => go1_congr (h v hv)
    have e2 : vs.flatMap (own1 m) = vs.flatMap (own1 m') := flatMap_congr' fun v hv => own1_congr (h v hv)
    rw [e1, e2]
  case calla f xs =>
    split
    · rename_i d g us; rw [hsl d g (by simp)]
    · rfl
  case apps e x y =>
    split
    · rename_i d g bs; rw [hsl d g (by simp)]
    · rfl
  case tos x =>
    split
    · rfl
    · rename_i v _; rw [hr v (by simp)]
    · rfl
  case callv fz x xs =>
    split
    · rename_i f caps us
      refine congrArg (fun z => if f < 1000000 then z else none) ?_
      refine effCall_congr fun v hv d hd => ?_
      rcases List.mem_append.1 hv with hv | hv
      · exact h v (List.mem_cons_of_mem _ hv) d hd
      · exact h _ (List.mem_cons_self ..) d (by rw [SV.labs]; exact mem_labsL hv hd)
    · rfl
  case load n x L =>
    split
    · rename_i d o; rw [hd d o (by simp)]
    · rfl
    · rfl
    · rename_i d g sz i o; simp only [rowAt]; rw [hel d g sz i o (by simp)]
    · rfl
  case store n x y L =>
    split
    · rename_i d o v; rw [hd d o (by simp)]
    · rename_i d g sz i o v; rw [hel d g sz i o (by simp), go1_congr (h v (by simp)), own1_congr (h v (by simp))]
    · rfl
  case len b x =>
    cases b <;> simp only [effM]
    split
    · rfl
    · rename_i v _; rw [hr v (by simp)]
    · rfl
  case isnil b x =>
    split
    · rfl
    · rfl
    · rename_i v _ _; rw [hr v (by simp)]
    · rfl
  case idx sz x y =>
    split
    · rename_i d g k i; rw [hr (.sl d g) (by simp)]
    · rfl
    · rfl
  case app e sz b x y =>
    split
    · rename_i d g; rw [hsl d g (by simp)]
    · rename_i d g y _; rw [hsl d g (by simp), hr y (by simp)]
    · rename_i y; rw [hr y (by simp)]
    · rfl
  case sub fz sz x lo hi =>
    split
    · rfl
    · rename_i x us _; rw [hr x (by simp), ho x (by simp)]
    · rfl
  case part sz x lo hi =>
    split
    · rename_i d g us; rw [hsl d g (by simp)]
    · rfl
  case cpy x y =>
    split
    · rename_i x y
      rw [cpyDst_congr (h x (by simp)), cpySrc_congr (h y (by simp))]
    · rfl
theorem effM_blind {Γ : Gam} {lab : Nat} {k : SK} {vs : List SV} {m m' : Nat → Cel} (h : k.blind = true) : effM Γ lab k vs m = effM Γ lab k vs m' := by
  cases k <;> simp only [SK.blind, Bool.false_eq_true] at h <;> simp only [effM]
theorem eff_congr {Γ : Gam} {lab : Nat} {k : SK} {vs : List SV} {m m' : Nat → Cel} (h : k.sees = true → ∀ v ∈ vs, ∀ d ∈ v.labs, m d = m' d) : eff Γ lab k vs m = eff Γ lab k vs m' := by
  unfold eff
  by_cases hk : k.pure = true
  · simp only [hk, if_true]
  · simp only [hk, Bool.false_eq_true, if_false]
    by_cases hb : k.blind = true
    · exact effM_blind hb
    · exact effM_congr (h (by simp [SK.sees, hk, hb]))

/-! Several labels at once. -/
theorem mem_put {s : St} {dst : Option Nat} {v : SV} : (s.put dst v).mem = s.mem := by cases dst <;> rfl
theorem fr_setL : ∀ (l : List (Nat × Cel)) (s : St), (setL s l).fr = s.fr
  | [], _ => rfl
  | (d, c) :: l, s => (fr_setL l (s.setm d c)).trans rfl
theorem mem_setL : ∀ (l : List (Nat × Cel)) (s : St) (d : Nat), d ∉ l.map (·.1) → (setL s l).mem d = s.mem d
  | [], _, _, _ => rfl
  | (e, c) :: l, s, d, h => by
    simp only [List.map_cons, List.mem_cons, not_or] at h
    rw [setL, mem_setL l _ d h.2]
    simp only [St.setm, setM]
    rw [if_neg h.1]
theorem setL_comm : ∀ (l l' : List (Nat × Cel)) (s : St), (∀ d ∈ l.map (·.1), d ∉ l'.map (·.1)) → setL (setL s l) l' = setL (setL s l') l
  | [], _, _, _ => rfl
  | (d, c) :: l, l', s, h => by
    rw [setL, setL, setL_comm l l' _ (fun x hx => h x (by simp only [List.map_cons, List.mem_cons]; exact .inr hx)), setL_setm l' s d c (h d (by simp))]
theorem setL_put : ∀ (l : List (Nat × Cel)) (s : St) (x : Option Nat) (v : SV), setL (s.put x v) l = (setL s l).put x v
  | [], _, _, _ => rfl
  | (d, c) :: l, s, x, v => by
    rw [setL, setL, ← setL_put l]
    cases x <;> rfl
/-- The labels that an effect turns. -/
def Eff.labs (e : Eff) : List Nat := (e.new ++ e.set).map (·.1)
theorem app_eq {dst : Option Nat} {s s' : St} {e : Eff} : app dst s e = some s' ↔ (∀ p ∈ e.new, (s.mem p.1).isFresh = true) ∧ s' = (setL s (e.new ++ e.set)).put dst e.v := by
  unfold app
  split
  · rename_i h
    simp only [List.all_eq_true] at h
    simp only [Option.some.injEq]
    exact ⟨fun hh => ⟨h, hh.symm⟩, fun hh => hh.2.symm⟩
  · rename_i h
    simp only [List.all_eq_true] at h
    exact ⟨fun hh => (by cases hh), fun hh => absurd hh.1 h⟩
/-- What an operation leaves alone. -/
theorem app_fr {dst : Option Nat} {s s' : St} {e : Eff} (h : app dst s e = some s') : ∀ t, dst ≠ some t → s'.fr t = s.fr t := by
  intro t ht
  obtain ⟨_, rfl⟩ := app_eq.1 h
  cases dst with
  | none => simp only [St.put]; rw [fr_setL]
  | some d =>
    simp only [St.put]
    rw [if_neg (fun he => ht (by rw [he])), fr_setL]
theorem put_put_comm {s : St} {x y : Option Nat} {u v : SV} (h : ∀ d, x = some d → y ≠ some d) : (s.put x u).put y v = (s.put y v).put x u := by
  cases x with
  | none => rfl
  | some d =>
    cases y with
    | none => rfl
    | some e =>
      have hne : d ≠ e := fun he => h d rfl (by rw [he])
      simp only [St.put]
      congr 1
      funext t
      by_cases h1 : t = e
      · subst h1; simp [Ne.symm hne]
      · simp [h1]


theorem effCall_at {Γ : Gam} {lab f : Nat} {fz : Bool} {vs : List SV} {m : Nat → Cel} {p : Prop} {e : Eff} (h : effCall Γ lab f fz vs m = some (p, e)) : (∀ q ∈ e.new, q.1 = lab) ∧ (fz = false → e.set = []) := by
  unfold effCall at h
  split at h
  case isFalse => cases h
  split at h
  case h_2 => cases h
  rename_i p' r own _
  split at h
  · simp only [Option.some.injEq, Prod.mk.injEq] at h
    obtain ⟨_, rfl⟩ := h
    refine ⟨fun q hq => ?_, fun _ => rfl⟩
    cases own with
    | none => cases hq
    | some er => simp only [List.mem_singleton] at hq; subst hq; rfl
  · split at h
    case isFalse => cases h
    split at h
    case isFalse => cases h
    rename_i hc
    simp only [Option.some.injEq, Prod.mk.injEq] at h
    obtain ⟨_, rfl⟩ := h
    refine ⟨fun q hq => ?_, fun hf => ?_⟩
    · cases own with
      | none => cases hq
      | some er => simp only [List.mem_singleton] at hq; subst hq; rfl
    · subst hf
      simpa using hc
theorem effM_at {Γ : Gam} {lab : Nat} {k : SK} {vs : List SV} {m : Nat → Cel} {p : Prop} {e : Eff} (h : effM Γ lab k vs m = some (p, e)) : (∀ q ∈ e.new, q.1 = lab) ∧ (k.writes = false → e.set = []) := by
  have hval : ∀ {v : SV} {p' : Prop}, (p', Eff.val v) = (p, e) → (∀ q ∈ e.new, q.1 = lab) ∧ (k.writes = false → e.set = []) := fun {v p'} hh => by
    simp only [Prod.mk.injEq] at hh
    obtain ⟨_, rfl⟩ := hh
    exact ⟨by simp [Eff.val], fun _ => rfl⟩
  have hnew : ∀ {v : SV} {c : Cel} {p' : Prop}, (p', (⟨v, [(lab, c)], []⟩ : Eff)) = (p, e) → (∀ q ∈ e.new, q.1 = lab) ∧ (k.writes = false → e.set = []) := fun {v c p'} hh => by
    simp only [Prod.mk.injEq] at hh
    obtain ⟨_, rfl⟩ := hh
    exact ⟨by simp, fun _ => rfl⟩
  have hset : ∀ {v : SV} {l : List (Nat × Cel)} {p' : Prop}, k.writes = true → (p', (⟨v, [], l⟩ : Eff)) = (p, e) → (∀ q ∈ e.new, q.1 = lab) ∧ (k.writes = false → e.set = []) := fun {v l p'} hw hh => by
    simp only [Prod.mk.injEq] at hh
    obtain ⟨_, rfl⟩ := hh
    exact ⟨by simp, fun hf => by rw [hw] at hf; cases hf⟩
  cases k <;> simp only [effM] at h <;> try (cases h; done)
  case box T x =>
    split at h
    · split at h
      · exact hnew (Option.some.inj h)
      · cases h
    · cases h
  case alloc T z =>
    split at h
    · exact hnew (Option.some.inj h)
    · cases h
  case load n x L =>
    split at h
    · split at h
      · split at h
        · obtain ⟨v, _, h⟩ := Option.map_eq_some_iff.1 h; exact hval h
        · cases h
      · cases h
    · split at h
      · obtain ⟨v, _, h⟩ := Option.map_eq_some_iff.1 h; exact hval h
      · cases h
    · split at h
      · split at h
        · obtain ⟨v, _, h⟩ := Option.map_eq_some_iff.1 h; exact hval h
        · cases h
      · cases h
    · split at h
      · split at h
        · split at h
          · obtain ⟨v, _, h⟩ := Option.map_eq_some_iff.1 h; exact hval h
          · cases h
        · cases h
      · cases h
    · cases h
  case store n x y L =>
    split at h
    · split at h
      · split at h
        · split at h
          · exact hset rfl (Option.some.inj h)
          · cases h
        · cases h
      · cases h
    · split at h
      · split at h
        · split at h
          · obtain ⟨v, _, h⟩ := Option.map_eq_some_iff.1 h; exact hset rfl h
          · cases h
        · cases h
      · cases h
    · cases h
  case call f fz xs =>
    split at h
    · exact effCall_at h
    · cases h
  case litf e len r z ps =>
    split at h
    · obtain ⟨r', _, h⟩ := Option.map_eq_some_iff.1 h
      simp only [Prod.mk.injEq] at h
      obtain ⟨_, rfl⟩ := h
      exact ⟨by simp, fun hh => by cases hh⟩
    · cases h
  case litg e len r z ps =>
    split at h
    · obtain ⟨r', _, h⟩ := Option.map_eq_some_iff.1 h
      simp only [Prod.mk.injEq] at h
      obtain ⟨_, rfl⟩ := h
      exact ⟨by simp, fun hh => by cases hh⟩
    · cases h
  case callw f x =>
    split at h
    case h_2 => cases h
    split at h
    case h_2 => cases h
    split at h
    case isFalse => cases h
    split at h
    case h_2 => cases h
    split at h
    case isFalse => cases h
    simp only [Option.some.injEq, Prod.mk.injEq] at h
    obtain ⟨_, rfl⟩ := h
    exact ⟨by simp, fun hh => by cases hh⟩
  case calla f xs =>
    split at h
    case h_2 => cases h
    split at h
    case h_2 => cases h
    split at h
    case isFalse => cases h
    split at h
    case h_2 => cases h
    split at h
    case isFalse => cases h
    simp only [Option.some.injEq, Prod.mk.injEq] at h
    obtain ⟨_, rfl⟩ := h
    exact ⟨by simp, fun hh => by cases hh⟩
  case apps e x y =>
    split at h
    case h_2 => cases h
    split at h
    case h_2 => cases h
    split at h
    case isFalse => cases h
    exact hset rfl (Option.some.inj h)
  case tob e x =>
    split at h
    · exact hnew (Option.some.inj h)
    · cases h
  case tos x =>
    split at h
    · exact hval (Option.some.inj h)
    · split at h
      · exact hval (Option.some.inj h)
      · cases h
    · cases h
  case callv fz x xs =>
    split at h
    · split at h
      · exact effCall_at h
      · cases h
    · cases h
  case len b x =>
    cases b <;> simp only [effM] at h
    · split at h
      · exact hval (Option.some.inj h)
      · obtain ⟨v, _, h⟩ := Option.map_eq_some_iff.1 h; exact hval h
      · cases h
    · split at h
      · exact hval (Option.some.inj h)
      · cases h
  case isnil b x =>
    split at h
    · exact hval (Option.some.inj h)
    · exact hval (Option.some.inj h)
    · obtain ⟨v, _, h⟩ := Option.map_eq_some_iff.1 h; exact hval h
    · cases h
  case idx sz x y =>
    split at h
    · split at h
      · split at h
        · exact hval (Option.some.inj h)
        · cases h
      · cases h
    · split at h
      · exact hval (Option.some.inj h)
      · cases h
    · cases h
  case nilrow e0 r => exact hnew (Option.some.inj h)
  case lit e0 len r z ps =>
    split at h
    · obtain ⟨v, _, h⟩ := Option.map_eq_some_iff.1 h; exact hnew h
    · cases h
  case litz e0 len r z ps =>
    split at h
    · obtain ⟨v, _, h⟩ := Option.map_eq_some_iff.1 h; exact hnew h
    · cases h
  case mk e0 b r z l c =>
    split at h
    · obtain ⟨v, _, h⟩ := Option.map_eq_some_iff.1 h; exact hnew h
    · cases h
  case app e0 sz b x y =>
    split at h
    · split at h
      · split at h
        · exact hset rfl (Option.some.inj h)
        · cases h
      · cases h
    · split at h
      · split at h
        · obtain ⟨v, _, h⟩ := Option.map_eq_some_iff.1 h; exact hset rfl h
        · cases h
      · cases h
    · split at h
      · split at h
        · exact hnew (Option.some.inj h)
        · cases h
      · cases h
    · cases h
  case sub fz sz x lo hi =>
    split at h
    · obtain ⟨v, _, h⟩ := Option.map_eq_some_iff.1 h; exact hval h
    · split at h
      · split at h
        · rename_i hc
          obtain ⟨v, _, h⟩ := Option.map_eq_some_iff.1 h
          cases fz with
          | true => exact hset rfl h
          | false =>
            simp only [Prod.mk.injEq] at h
            obtain ⟨_, rfl⟩ := h
            refine ⟨by simp, fun _ => ?_⟩
            have := hc.2
            simpa using this
        · cases h
      · cases h
    · cases h
  case part sz x lo hi =>
    split at h
    · split at h
      · split at h
        · obtain ⟨v, _, h⟩ := Option.map_eq_some_iff.1 h; exact hval h
        · cases h
      · cases h
    · cases h
  case cpy x y =>
    split at h
    · split at h
      · split at h
        · exact hset rfl (Option.some.inj h)
        · cases h
      · cases h
    · cases h
theorem eff_at {Γ : Gam} {lab : Nat} {k : SK} {vs : List SV} {m : Nat → Cel} {p : Prop} {e : Eff} (h : eff Γ lab k vs m = some (p, e)) : (k.pure = true → e.new = [] ∧ e.set = []) ∧ (k.writes = false → e.set = []) ∧ ∀ q ∈ e.new, q.1 = lab := by
  unfold eff at h
  by_cases hk : k.pure = true
  · simp only [hk, if_true] at h
    obtain ⟨v, _, h⟩ := Option.map_eq_some_iff.1 h
    simp only [Prod.mk.injEq] at h
    obtain ⟨_, rfl⟩ := h
    exact ⟨fun _ => ⟨rfl, rfl⟩, fun _ => rfl, by simp [Eff.val]⟩
  · simp only [hk, Bool.false_eq_true, if_false] at h
    have := effM_at h
    exact ⟨fun hh => absurd hh hk, this.2, this.1⟩
theorem out_at {Γ : Gam} {lab : Nat} {o : SOp} {s : St} {e : Eff} (h : Out Γ lab o s e) : (o.k.pure = true → e.new = [] ∧ e.set = []) ∧ (o.k.writes = false → e.set = []) ∧ ∀ q ∈ e.new, q.1 = lab := by
  unfold Out at h
  split at h
  · obtain ⟨p, h, _⟩ := h; exact eff_at h
  · rcases h with ⟨_, p, h, _⟩ | ⟨_, rfl⟩
    · exact eff_at h
    · exact ⟨fun _ => ⟨rfl, rfl⟩, fun _ => rfl, by simp [Eff.val]⟩

/-- An operation comes to the same in two states that differ only in what it does not look at. -/
theorem Out.same {Γ : Gam} {lab : Nat} {o : SOp} {s s' : St} {e : Eff} (hfr : ∀ t ∈ o.looks, s'.fr t = s.fr t) (hm : ∀ p, eff Γ lab o.k (o.k.opnds.map (SO.ev s)) s.mem = some (p, e) → o.k.sees = true → ∀ x ∈ o.k.opnds, ∀ d ∈ (x.ev s).labs, s'.mem d = s.mem d) (h : Out Γ lab o s e) : Out Γ lab o s' e := by
  have hev : o.k.opnds.map (SO.ev s') = o.k.opnds.map (SO.ev s) := List.map_congr_left fun x hx => by
    cases x with
    | c v => rfl
    | t n =>
      refine hfr n ?_
      simp only [SOp.looks, List.mem_append, List.mem_filterMap]
      exact .inl ⟨_, hx, rfl⟩
  have he : ∀ p, eff Γ lab o.k (o.k.opnds.map (SO.ev s)) s.mem = some (p, e) → eff Γ lab o.k (o.k.opnds.map (SO.ev s')) s'.mem = some (p, e) := fun p hp => by
    rw [hev, ← hp]
    refine eff_congr fun hk v hv d hd => ?_
    obtain ⟨x, hx, rfl⟩ := List.mem_map.1 hv
    exact hm p hp hk x hx d hd
  unfold Out at h ⊢
  cases hg : o.g with
  | none =>
    simp only [hg] at h ⊢
    obtain ⟨p, h1, h2⟩ := h
    exact ⟨p, he p h1, h2⟩
  | some gw =>
    obtain ⟨g, want⟩ := gw
    have : s'.fr g = s.fr g := hfr g (by simp [SOp.looks, hg])
    simp only [hg, this] at h ⊢
    rcases h with ⟨h0, p, h1, h2⟩ | h
    · exact .inl ⟨h0, p, he p h1, h2⟩
    · exact .inr h

theorem apart_spec {x y : SOp} (h : x.apart y = true) : (∀ d, x.dst = some d → d ∉ y.looks) ∧ (∀ d, x.dst = some d → y.dst ≠ some d) ∧ ∀ d, y.dst = some d → d ∉ x.looks := by
  simp only [SOp.apart, Bool.and_eq_true] at h
  refine ⟨fun d hd => ?_, fun d hd => ?_, fun d hd => ?_⟩
  · have := h.1; simp only [hd, Bool.and_eq_true, Bool.not_eq_eq_eq_not, Bool.not_true, List.contains_eq_mem, decide_eq_false_iff_not] at this; exact this.1
  · have := h.1; simp only [hd, Bool.and_eq_true, bne_iff_ne] at this; exact this.2
  · have := h.2; simp only [hd, Bool.not_eq_eq_eq_not, Bool.not_true, List.contains_eq_mem, decide_eq_false_iff_not] at this; exact this
theorem eff_load {Γ : Gam} {lab : Nat} {n : Option Nat} {x : SO} {A : Nat} {vs : List SV} {m : Nat → Cel} {p : Prop} {e : Eff} (h : eff Γ lab (.load n x (some A)) vs m = some (p, e)) : (∃ o, vs = [.ptr A o]) ∧ e.labs = [] := by
  simp only [eff, SK.pure, Bool.false_eq_true, if_false, effM] at h
  split at h
  · rename_i d o
    split at h
    · rename_i hl
      simp only [labOk, beq_iff_eq] at hl
      subst hl
      split at h
      · obtain ⟨v, _, h⟩ := Option.map_eq_some_iff.1 h
        simp only [Prod.mk.injEq] at h
        obtain ⟨_, rfl⟩ := h
        exact ⟨⟨o, rfl⟩, rfl⟩
      · cases h
    · cases h
  · simp at h
  · simp at h
  · simp at h
  · cases h
theorem eff_store {Γ : Gam} {lab : Nat} {n : Nat} {x y : SO} {B : Nat} {vs : List SV} {m : Nat → Cel} {p : Prop} {e : Eff} (h : eff Γ lab (.store n x y (some B)) vs m = some (p, e)) : e.labs = [B] := by
  simp only [eff, SK.pure, Bool.false_eq_true, if_false, effM] at h
  split at h
  · split at h
    · rename_i hl
      simp only [labOk, beq_iff_eq] at hl
      subst hl
      split at h
      · split at h
        · simp only [Option.some.injEq, Prod.mk.injEq] at h
          obtain ⟨_, rfl⟩ := h
          rfl
        · cases h
      · cases h
    · cases h
  · simp at h
  · cases h
theorem out_load {Γ : Gam} {lab : Nat} {o : SOp} {n : Option Nat} {x : SO} {A : Nat} (hk : o.k = .load n x (some A)) {s : St} {e : Eff} (h : Out Γ lab o s e) : e.labs = [] := by
  unfold Out at h
  rw [hk] at h
  split at h
  · obtain ⟨p, h, _⟩ := h; exact (eff_load h).2
  · rcases h with ⟨_, p, h, _⟩ | ⟨_, rfl⟩
    · exact (eff_load h).2
    · rfl
theorem out_store {Γ : Gam} {lab : Nat} {o : SOp} {n : Nat} {x y : SO} {B : Nat} (hk : o.k = .store n x y (some B)) {s : St} {e : Eff} (h : Out Γ lab o s e) : e.labs = [] ∨ e.labs = [B] := by
  unfold Out at h
  rw [hk] at h
  split at h
  · obtain ⟨p, h, _⟩ := h; exact .inr (eff_store h)
  · rcases h with ⟨_, p, h, _⟩ | ⟨_, rfl⟩
    · exact .inr (eff_store h)
    · exact .inl rfl
theorem eff_app {Γ : Gam} {lab e sz bytes : Nat} {x y : SO} {vs : List SV} {m : Nat → Cel} {p : Prop} {ef : Eff} (h : eff Γ lab (.app e sz bytes x y) vs m = some (p, ef)) : ∀ d ∈ ef.labs, d = lab ∨ ∃ g e' r, m d = .row g e' r := by
  simp only [eff, SK.pure, Bool.false_eq_true, if_false] at h
  unfold effM at h
  simp only at h
  split at h
  · split at h
    · rename_i hm
      split at h
      · simp only [Option.some.injEq, Prod.mk.injEq] at h
        obtain ⟨_, rfl⟩ := h
        intro d hd
        simp [Eff.labs] at hd
        subst hd
        exact .inr ⟨_, _, _, hm⟩
      · cases h
    · cases h
  · split at h
    · rename_i hm _
      split at h
      · obtain ⟨r2, _, h⟩ := Option.map_eq_some_iff.1 h
        simp only [Prod.mk.injEq] at h
        obtain ⟨_, rfl⟩ := h
        intro d hd
        simp [Eff.labs] at hd
        subst hd
        exact .inr ⟨_, _, _, hm⟩
      · cases h
    · cases h
  · split at h
    · split at h
      · simp only [Option.some.injEq, Prod.mk.injEq] at h
        obtain ⟨_, rfl⟩ := h
        intro d hd
        simp [Eff.labs] at hd
        exact .inl hd
      · cases h
    · cases h
  · cases h
theorem out_app {Γ : Gam} {lab : Nat} {o : SOp} {e sz bytes : Nat} {x y : SO} (hk : o.k = .app e sz bytes x y) {s : St} {ef : Eff} (h : Out Γ lab o s ef) : ∀ d ∈ ef.labs, d = lab ∨ ∃ g e' r, s.mem d = .row g e' r := by
  unfold Out at h
  rw [hk] at h
  split at h
  · obtain ⟨p, h, _⟩ := h; exact eff_app h
  · rcases h with ⟨_, p, h, _⟩ | ⟨_, rfl⟩
    · exact eff_app h
    · intro d hd; simp [Eff.labs, Eff.val] at hd
theorem eff_app_set {Γ : Gam} {lab e sz bytes : Nat} {x y : SO} {vs : List SV} {m : Nat → Cel} {p : Prop} {ef : Eff} (h : eff Γ lab (.app e sz bytes x y) vs m = some (p, ef)) : (∀ d ∈ ef.set.map (·.1), ∃ g e' r, m d = .row g e' r) ∧ ((∃ d g e' r, ef.new = [] ∧ ef.set = [(d, .row g e' r)]) ∨ (∃ d g e' r, ef.new = [(d, .row g e' r)] ∧ ef.set = [])) := by
  simp only [eff, SK.pure, Bool.false_eq_true, if_false] at h
  unfold effM at h
  simp only at h
  split at h
  · split at h
    · rename_i hm
      split at h
      · simp only [Option.some.injEq, Prod.mk.injEq] at h
        obtain ⟨_, rfl⟩ := h
        refine ⟨fun d hd => ?_, .inl ⟨_, _, _, _, rfl, rfl⟩⟩
        simp at hd
        subst hd
        exact ⟨_, _, _, hm⟩
      · cases h
    · cases h
  · split at h
    · rename_i hm _
      split at h
      · obtain ⟨r2, _, h⟩ := Option.map_eq_some_iff.1 h
        simp only [Prod.mk.injEq] at h
        obtain ⟨_, rfl⟩ := h
        refine ⟨fun d hd => ?_, .inl ⟨_, _, _, _, rfl, rfl⟩⟩
        simp at hd
        subst hd
        exact ⟨_, _, _, hm⟩
      · cases h
    · cases h
  · split at h
    · split at h
      · simp only [Option.some.injEq, Prod.mk.injEq] at h
        obtain ⟨_, rfl⟩ := h
        exact ⟨by simp, .inr ⟨_, _, _, _, rfl, rfl⟩⟩
      · cases h
    · cases h
  · cases h
theorem out_app_set {Γ : Gam} {lab : Nat} {o : SOp} {e sz bytes : Nat} {x y : SO} (hk : o.k = .app e sz bytes x y) {s : St} {ef : Eff} (h : Out Γ lab o s ef) : ∀ d ∈ ef.set.map (·.1), ∃ g e' r, s.mem d = .row g e' r := by
  unfold Out at h
  rw [hk] at h
  split at h
  · obtain ⟨p, h, _⟩ := h; exact (eff_app_set h).1
  · rcases h with ⟨_, p, h, _⟩ | ⟨_, rfl⟩
    · exact (eff_app_set h).1
    · intro d hd; simp [Eff.val] at hd
theorem out_app_mem {Γ : Gam} {lab : Nat} {o : SOp} {e sz bytes : Nat} {x y : SO} (hk : o.k = .app e sz bytes x y) {s : St} {ef : Eff} (h : Out Γ lab o s ef) : ∀ d ∈ ef.labs, ∃ g e' r, (setL s (ef.new ++ ef.set)).mem d = .row g e' r := by
  have key : ∀ ef : Eff, ((∃ d g e' r, ef.new = [] ∧ ef.set = [(d, Cel.row g e' r)]) ∨ (∃ d g e' r, ef.new = [(d, Cel.row g e' r)] ∧ ef.set = [])) → ∀ d ∈ ef.labs, ∃ g e' r, (setL s (ef.new ++ ef.set)).mem d = .row g e' r := by
    intro ef h d hd
    rcases h with ⟨d', g, e', r, h1, h2⟩ | ⟨d', g, e', r, h1, h2⟩
    · simp only [Eff.labs, h1, h2, List.nil_append, List.map_cons, List.map_nil, List.mem_singleton] at hd
      subst hd
      exact ⟨g, e', r, by simp [h1, h2, setL, St.setm, setM]⟩
    · simp only [Eff.labs, h1, h2, List.append_nil, List.map_cons, List.map_nil, List.mem_singleton] at hd
      subst hd
      exact ⟨g, e', r, by simp [h1, h2, setL, St.setm, setM]⟩
  unfold Out at h
  rw [hk] at h
  split at h
  · obtain ⟨p, h, _⟩ := h; exact key ef (eff_app_set h).2
  · rcases h with ⟨_, p, h, _⟩ | ⟨_, rfl⟩
    · exact key ef (eff_app_set h).2
    · intro d hd; simp [Eff.labs, Eff.val] at hd
theorem eff_loadv {Γ : Gam} {lab : Nat} {n : Option Nat} {x : SO} {A : Nat} {vs : List SV} {m : Nat → Cel} {p : Prop} {e : Eff} (h : eff Γ lab (.load n x (some A)) vs m = some (p, e)) : ∃ T cs, m A = .var T cs := by
  simp only [eff, SK.pure, Bool.false_eq_true, if_false] at h
  unfold effM at h
  simp only at h
  split at h
  · split at h
    · rename_i hl
      simp only [labOk, beq_iff_eq] at hl
      subst hl
      split at h
      · rename_i hm; exact ⟨_, _, hm⟩
      · cases h
    · cases h
  · simp at h
  · simp at h
  · simp at h
  · cases h
theorem twoVars_spec {a b : SK} (h : a.twoVars b = true) : (∃ n x A n' y z B, a = .load n x (some A) ∧ b = .store n' y z (some B) ∧ A ≠ B) ∨ (∃ n x A n' y z B, a = .store n' y z (some B) ∧ b = .load n x (some A) ∧ A ≠ B) ∨
    (∃ n x A e sz bytes y z, a = .load n x (some A) ∧ b = .app e sz bytes y z) ∨ (∃ n x A e sz bytes y z, a = .app e sz bytes y z ∧ b = .load n x (some A)) := by
  unfold SK.twoVars at h
  split at h
  · exact .inl ⟨_, _, _, _, _, _, _, rfl, rfl, by simpa using h⟩
  · exact .inr (.inl ⟨_, _, _, _, _, _, _, rfl, rfl, by simpa using h⟩)
  · exact .inr (.inr (.inl ⟨_, _, _, _, _, _, _, _, rfl, rfl⟩))
  · exact .inr (.inr (.inr ⟨_, _, _, _, _, _, _, _, rfl, rfl⟩))
  · cases h

theorem isApp_spec {k : SK} (h : k.isApp = true) : ∃ e sz bytes y z, k = .app e sz bytes y z := by
  cases k <;> simp [SK.isApp] at h
  exact ⟨_, _, _, _, _, rfl⟩
theorem blind_nw {k : SK} (h : k.blind = true) : k.writes = false := by
  cases k <;> simp [SK.blind] at h <;> rfl
theorem eff_app_ops {Γ : Gam} {lab e sz bytes : Nat} {x y : SO} {vs : List SV} {m : Nat → Cel} {p : Prop} {ef : Eff} (h : eff Γ lab (.app e sz bytes x y) vs m = some (p, ef)) : ∀ d ∈ ef.labs, d = lab ∨ ∃ v ∈ vs, d ∈ v.labs := by
  simp only [eff, SK.pure, Bool.false_eq_true, if_false] at h
  unfold effM at h
  simp only at h
  split at h
  · split at h
    · split at h
      · simp only [Option.some.injEq, Prod.mk.injEq] at h
        obtain ⟨_, rfl⟩ := h
        intro d hd
        simp [Eff.labs] at hd
        subst hd
        exact .inr ⟨_, List.mem_cons_self .., by simp [SV.labs]⟩
      · cases h
    · cases h
  · split at h
    · split at h
      · obtain ⟨r2, _, h⟩ := Option.map_eq_some_iff.1 h
        simp only [Prod.mk.injEq] at h
        obtain ⟨_, rfl⟩ := h
        intro d hd
        simp [Eff.labs] at hd
        subst hd
        exact .inr ⟨_, List.mem_cons_self .., by simp [SV.labs]⟩
      · cases h
    · cases h
  · split at h
    · split at h
      · simp only [Option.some.injEq, Prod.mk.injEq] at h
        obtain ⟨_, rfl⟩ := h
        intro d hd
        simp [Eff.labs] at hd
        exact .inl hd
      · cases h
    · cases h
  · cases h
theorem out_app_ops {Γ : Gam} {lab : Nat} {o : SOp} {e sz bytes : Nat} {x y : SO} (hk : o.k = .app e sz bytes x y) {s : St} {ef : Eff} (h : Out Γ lab o s ef) : ∀ d ∈ ef.labs, d = lab ∨ ∃ x ∈ o.k.opnds, d ∈ (x.ev s).labs := by
  have key : ∀ p, eff Γ lab o.k (o.k.opnds.map (SO.ev s)) s.mem = some (p, ef) → ∀ d ∈ ef.labs, d = lab ∨ ∃ x ∈ o.k.opnds, d ∈ (x.ev s).labs := fun p hp d hd => by
    rw [hk] at hp
    rcases eff_app_ops hp d hd with h | ⟨v, hv, h⟩
    · exact .inl h
    · obtain ⟨x', hx', rfl⟩ := List.mem_map.1 hv
      exact .inr ⟨x', by rw [hk]; exact hx', h⟩
  unfold Out at h
  rw [hk] at h
  rw [hk] at key
  split at h
  · obtain ⟨p, h, _⟩ := h; rw [hk]; exact key p h
  · rcases h with ⟨_, p, h, _⟩ | ⟨_, rfl⟩
    · rw [hk]; exact key p h
    · intro d hd; simp [Eff.labs, Eff.val] at hd

/-- **Two neighbours of which neither waits for the other change places.** -/
theorem swap {Γ : Gam} {lj li : Nat} {oj oi : SOp} {s s1 s2 : St} (hl : lj ≠ li) (hc : oj.comm oi = true) (hwf : ∀ t, ∀ d ∈ (s.fr t).labs, (s.mem d).isFresh = false) (h1 : Stp Γ lj oj s s1) (h2 : Stp Γ li oi s1 s2) :
    ∃ s1', Stp Γ li oi s s1' ∧ Stp Γ lj oj s1' s2 := by
  simp only [SOp.comm, Bool.and_eq_true] at hc
  obtain ⟨⟨⟨hap, hcj⟩, hci⟩, hcl⟩ := hc
  obtain ⟨a1, a2, a3⟩ := apart_spec hap
  obtain ⟨ej, hoj, hj⟩ := h1
  obtain ⟨ei, hoi, hi⟩ := h2
  obtain ⟨hj1, rfl⟩ := app_eq.1 hj
  obtain ⟨hi1, rfl⟩ := app_eq.1 hi
  have hlab : ∀ (o : SOp), o.closed = true → ∀ x ∈ o.k.opnds, ∀ d ∈ (x.ev s).labs, (s.mem d).isFresh = false := fun o hco x hx d hd => by
    cases x with
    | t m => exact hwf m d hd
    | c v =>
      simp only [SOp.closed, List.all_eq_true] at hco
      have := hco _ hx
      simp only at this
      rw [SO.ev] at hd
      exact (nolab this d hd).elim
  obtain ⟨jp, jw, jn⟩ := out_at hoj
  obtain ⟨ip, iw, iN⟩ := out_at hoi
  have hfr1 : ∀ t ∈ oi.looks, s.fr t = ((setL s (ej.new ++ ej.set)).put oj.dst ej.v).fr t := fun t ht => (app_fr hj t (fun hh => a1 t hh ht)).symm
  have hev1 : ∀ x ∈ oi.k.opnds, x.ev ((setL s (ej.new ++ ej.set)).put oj.dst ej.v) = x.ev s := fun x hx => by
    cases x with
    | c v => rfl
    | t m =>
      refine (hfr1 m ?_).symm
      simp only [SOp.looks, List.mem_append, List.mem_filterMap]
      exact .inl ⟨_, hx, rfl⟩
  have nlabs : ∀ (e : Eff), e.set = [] → ∀ d ∈ e.labs, ∃ q ∈ e.new, q.1 = d := fun e he d hd => by
    simp only [Eff.labs, he, List.append_nil, List.mem_map] at hd
    exact hd
  have plabs : ∀ (e : Eff), e.new = [] ∧ e.set = [] → e.labs = [] := fun e he => by simp [Eff.labs, he.1, he.2]
  -- at most one of the two turns a label that the other looks at
  have hcase : (∀ x ∈ ej.labs, x ∉ ei.labs) ∧
      (∀ p, eff Γ li oi.k (oi.k.opnds.map (SO.ev ((setL s (ej.new ++ ej.set)).put oj.dst ej.v))) ((setL s (ej.new ++ ej.set)).put oj.dst ej.v).mem = some (p, ei) → oi.k.sees = true → ∀ x ∈ oi.k.opnds, ∀ d ∈ (x.ev s).labs, d ∉ ej.labs) ∧
      ((∀ q ∈ ei.new, (s.mem q.1).isFresh = true) → ∀ p, eff Γ lj oj.k (oj.k.opnds.map (SO.ev s)) s.mem = some (p, ej) → oj.k.sees = true → ∀ x ∈ oj.k.opnds, ∀ d ∈ (x.ev s).labs, d ∉ ei.labs) := by
    simp only [Bool.or_eq_true, Bool.and_eq_true] at hcl
    rcases hcl with ((((⟨h1, h2⟩ | ⟨h1, h2⟩) | ⟨h1, h2⟩) | h1) | ⟨h1, h2⟩) | ⟨h1, h2⟩
    · have e1 := jw (by simpa using h1)
      have e2 := iw (by simpa using h2)
      refine ⟨fun x hx hx' => ?_, fun p _ _ x hx d hd hh => ?_, fun hfr p _ _ x hx d hd hh => ?_⟩
      · obtain ⟨q, hq, rfl⟩ := nlabs ej e1 x hx
        obtain ⟨q', hq', he⟩ := nlabs ei e2 _ hx'
        rw [jn q hq, iN q' hq'] at he
        exact hl he.symm
      · obtain ⟨q, hq, rfl⟩ := nlabs ej e1 d hh
        have := hlab oi hci x hx _ hd
        rw [hj1 q hq] at this; cases this
      · obtain ⟨q, hq, rfl⟩ := nlabs ei e2 d hh
        have := hlab oj hcj x hx _ hd
        rw [hfr q hq] at this; cases this
    · have e2 := plabs ei (ip h2)
      exact ⟨fun x _ => (by simp [e2]), fun p _ hh => (by simp [SK.sees, h2] at hh), fun _ p _ _ x _ d _ => by simp [e2]⟩
    · have e1 := plabs ej (jp h1)
      exact ⟨fun x hx => (by rw [e1] at hx; cases hx), fun p _ _ x _ d _ => (by simp [e1]), fun _ p _ hh => (by simp [SK.sees, h1] at hh)⟩
    · -- a load and a store of two variables
      rcases twoVars_spec h1 with ⟨n, x, A, n', y, z, B, hkj, hki, hAB⟩ | ⟨n, x, A, n', y, z, B, hkj, hki, hAB⟩ | ⟨n, x, A, e, sz, bytes, y, z, hkj, hki⟩ | ⟨n, x, A, e, sz, bytes, y, z, hkj, hki⟩
      · have e1 := out_load hkj hoj
        refine ⟨fun x hx => (by rw [e1] at hx; cases hx), fun p _ _ x _ d _ => (by simp [e1]), fun _ p hp _ x' hx' d hd hh => ?_⟩
        rw [hkj] at hp
        obtain ⟨o', ho'⟩ := (eff_load hp).1
        have : x'.ev s ∈ (SK.load n x (some A)).opnds.map (SO.ev s) := List.mem_map.2 ⟨x', by rw [← hkj]; exact hx', rfl⟩
        rw [ho'] at this
        simp only [List.mem_singleton] at this
        rw [this] at hd
        simp [SV.labs] at hd
        subst hd
        rcases out_store hki hoi with h | h
        · rw [h] at hh; cases hh
        · rw [h] at hh; simp only [List.mem_singleton] at hh; exact hAB hh
      · have e2 := out_load hki hoi
        refine ⟨fun x _ => by simp [e2], fun p hp _ x' hx' d hd hh => ?_, fun _ p _ _ x _ d _ => by simp [e2]⟩
        rw [hki] at hp
        obtain ⟨o', ho'⟩ := (eff_load hp).1
        have : x'.ev ((setL s (ej.new ++ ej.set)).put oj.dst ej.v) ∈ (SK.load n x (some A)).opnds.map (SO.ev ((setL s (ej.new ++ ej.set)).put oj.dst ej.v)) := List.mem_map.2 ⟨x', by rw [← hki]; exact hx', rfl⟩
        rw [ho', hev1 x' hx'] at this
        simp only [List.mem_singleton] at this
        rw [this] at hd
        simp [SV.labs] at hd
        subst hd
        rcases out_store hkj hoj with h | h
        · rw [h] at hh; cases hh
        · rw [h] at hh; simp only [List.mem_singleton] at hh; exact hAB hh
      · have e1 := out_load hkj hoj
        have e0 : ej.new ++ ej.set = [] := by simpa [Eff.labs] using e1
        refine ⟨fun x hx => (by rw [e1] at hx; cases hx), fun p _ _ x _ d _ => (by simp [e1]), fun hfr p hp _ x' hx' d hd hh => ?_⟩
        rw [hkj] at hp
        obtain ⟨o', ho'⟩ := (eff_load hp).1
        obtain ⟨T, cs, hva⟩ := eff_loadv hp
        have : x'.ev s ∈ (SK.load n x (some A)).opnds.map (SO.ev s) := List.mem_map.2 ⟨x', by rw [← hkj]; exact hx', rfl⟩
        rw [ho'] at this
        simp only [List.mem_singleton] at this
        rw [this] at hd
        simp [SV.labs] at hd
        subst hd
        rcases out_app hki hoi d hh with h | ⟨g, e', r, h⟩
        · have hmem : (s.mem d).isFresh = false := by rw [hva]; rfl
          have hnew : d ∈ ei.labs := hh
          simp only [Eff.labs, List.map_append, List.mem_append] at hnew
          rcases hnew with hn | hn
          · obtain ⟨q, hq, rfl⟩ := List.mem_map.1 hn
            rw [hfr q hq] at hmem; cases hmem
          · have hset := out_app_set hki hoi d hn
            rw [mem_put, e0, setL] at hset
            obtain ⟨g, e', r, h2⟩ := hset
            rw [hva] at h2; cases h2
        · rw [mem_put, e0, setL, hva] at h; cases h
      · have e2 := out_load hki hoi
        refine ⟨fun x _ => by simp [e2], fun p hp _ x' hx' d hd hh => ?_, fun _ p _ _ x _ d _ => by simp [e2]⟩
        rw [hki] at hp
        obtain ⟨o', ho'⟩ := (eff_load hp).1
        obtain ⟨T, cs, hva⟩ := eff_loadv hp
        have : x'.ev ((setL s (ej.new ++ ej.set)).put oj.dst ej.v) ∈ (SK.load n x (some A)).opnds.map (SO.ev ((setL s (ej.new ++ ej.set)).put oj.dst ej.v)) := List.mem_map.2 ⟨x', by rw [← hki]; exact hx', rfl⟩
        rw [ho', hev1 x' hx'] at this
        simp only [List.mem_singleton] at this
        rw [this] at hd
        simp [SV.labs] at hd
        subst hd
        obtain ⟨g, e', r, h⟩ := out_app_mem hkj hoj d hh
        rw [mem_put, h] at hva; cases hva
    · -- what is put behind a slice, and something new
      obtain ⟨e, sz, bytes, y, z, hkj⟩ := isApp_spec h1
      have e2 := iw (blind_nw h2)
      refine ⟨fun x hx hx' => ?_, fun p _ hh => (by simp [SK.sees, h2] at hh), fun hfr p _ _ x hx d hd hh => ?_⟩
      · obtain ⟨q, hq, rfl⟩ := nlabs ei e2 _ hx'
        obtain ⟨g, e', r, h⟩ := out_app_mem hkj hoj _ hx
        have := hi1 q hq
        rw [mem_put, h] at this; cases this
      · obtain ⟨q, hq, rfl⟩ := nlabs ei e2 d hh
        have := hlab oj hcj x hx _ hd
        rw [hfr q hq] at this; cases this
    · obtain ⟨e, sz, bytes, y, z, hki⟩ := isApp_spec h2
      have e1 := jw (blind_nw h1)
      refine ⟨fun x hx hx' => ?_, fun p _ _ x hx d hd hh => ?_, fun _ p _ hh => (by simp [SK.sees, h1] at hh)⟩
      · obtain ⟨q, hq, rfl⟩ := nlabs ej e1 x hx
        rcases out_app_ops hki hoi _ hx' with h | ⟨x', hx', hd⟩
        · rw [jn q hq] at h; exact hl h
        · rw [hev1 x' hx'] at hd
          have := hlab oi hci x' hx' _ hd
          rw [hj1 q hq] at this; cases this
      · obtain ⟨q, hq, rfl⟩ := nlabs ej e1 d hh
        have := hlab oi hci x hx _ hd
        rw [hj1 q hq] at this; cases this
  obtain ⟨hdis, hJ, hI⟩ := hcase
  have hfri : ∀ q ∈ ei.new, (s.mem q.1).isFresh = true := fun q hq => by
    have := hi1 q hq
    rw [mem_put, mem_setL] at this
    · exact this
    · intro hh
      exact hdis _ hh (by simp only [Eff.labs, List.map_append, List.mem_append]; exact .inl (List.mem_map.2 ⟨q, hq, rfl⟩))
  have hoi' : Out Γ li oi s ei := hoi.same hfr1 fun p hp hk x hx d hd => by
    rw [hev1 x hx] at hd
    rw [mem_put, mem_setL _ _ _ (hJ p hp hk x hx d hd)]
  have hi' : app oi.dst s ei = some ((setL s (ei.new ++ ei.set)).put oi.dst ei.v) := app_eq.2 ⟨hfri, rfl⟩
  have hoj' : Out Γ lj oj ((setL s (ei.new ++ ei.set)).put oi.dst ei.v) ej := hoj.same (fun t ht => app_fr hi' t (fun hh => a3 t hh ht)) fun p hp hk x hx d hd => by
    rw [mem_put, mem_setL _ _ _ (hI hfri p hp hk x hx d hd)]
  refine ⟨_, ⟨ei, hoi', hi'⟩, ej, hoj', app_eq.2 ⟨fun q hq => ?_, ?_⟩⟩
  · rw [mem_put, mem_setL]
    · exact hj1 q hq
    · intro hh
      exact hdis _ (by simp only [Eff.labs, List.map_append, List.mem_append]; exact .inl (List.mem_map.2 ⟨q, hq, rfl⟩)) hh
  · rw [setL_put, setL_put, setL_comm _ _ _ hdis, put_put_comm a2]
end Go.Proofs.Ytgklfolmlcfjgaa.Y
