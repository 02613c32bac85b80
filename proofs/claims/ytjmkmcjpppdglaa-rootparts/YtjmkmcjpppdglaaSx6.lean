/- The symbolic walk is sound: the fifth part: regions, in whatever order. -/
import Derived.Test.YtjmkmcjpppdglaaSx5
namespace Go.Proofs.Ytjmkmcjpppdglaa.Sx
open Go.RowKit

/-- What an operation comes to in a state. -/
def Out (Γ : Gam) (o : SOp) (s : St) (e : Eff) : Prop :=
  match o.g with
  | none => ∃ p, eff Γ o.k (o.k.opnds.map (SO.ev s)) s.mem = some (p, e) ∧ p
  | some (g, want) => (s.fr g = .bool want ∧ ∃ p, eff Γ o.k (o.k.opnds.map (SO.ev s)) s.mem = some (p, e) ∧ p) ∨ ((s.fr g = .bool (!want) ∨ s.fr g = .tup []) ∧ e = .val (.tup []))
def Stp (Γ : Gam) (lab : Nat) (o : SOp) (s s' : St) : Prop := ∃ e, Out Γ o s e ∧ app lab o.dst s e = some s'
/-- These numbers, one after another. -/
def RunI (Γ : Gam) (base : Nat) (ss : List SOp) : List Nat → St → St → Prop
  | [], s, t => s = t
  | i :: L, s, t => ∃ o s', ss[i]? = some o ∧ Stp Γ (base + i) o s s' ∧ RunI Γ base ss L s' t

theorem put_self {s : St} {g : Nat} {v : SV} (h : s.fr g = v) : s.put (some g) v = s := by
  cases s with
  | mk fr mem =>
    simp only [St.put]
    congr 1
    funext t
    by_cases ht : t = g
    · subst ht; simp [← h]
    · simp [ht]

theorem vcOp_stp {Γ : Gam} {lab : Nat} {dst : Option Nat} {k : SK} {s : St} {K : St → Prop} (h : vcOp Γ lab dst k s K) : ∃ e s', (∃ p, eff Γ k (k.opnds.map (SO.ev s)) s.mem = some (p, e) ∧ p) ∧ app lab dst s e = some s' ∧ K s' := by
  unfold vcOp at h
  split at h
  · rename_i c x y
    split at h
    · rename_i t hc
      cases t <;> simp only [Bool.false_eq_true, if_true, if_false] at h
      · exact ⟨.val (y.ev s), _, ⟨True, by simp [eff, SK.pure, effP, SK.opnds, hc], trivial⟩, rfl, h⟩
      · exact ⟨.val (x.ev s), _, ⟨True, by simp [eff, SK.pure, effP, SK.opnds, hc], trivial⟩, rfl, h⟩
    · exact h.elim
  · split at h
    · rename_i p e he
      obtain ⟨hp, h⟩ := h
      split at h
      · rename_i s' hs'
        exact ⟨e, s', ⟨p, he, hp⟩, hs', h⟩
      · exact h.elim
    · exact h.elim

theorem vcOps_run {Γ : Gam} {base : Nat} {ss : List SOp} : ∀ (l : List SOp) (k : Nat) (s : St) (K : St → Prop), (∀ j, l[j]? = ss[k + j]?) → vcOps Γ l (base + k) s K → ∃ t, RunI Γ base ss (List.range' k l.length) s t ∧ K t
  | [], _, s, K, _, h => ⟨s, rfl, h⟩
  | ⟨dst, none, kk⟩ :: l, k, s, K, hl, h => by
    simp only [vcOps] at h
    obtain ⟨e, s', ho, happ, h'⟩ := vcOp_stp h
    obtain ⟨t, hr, hK⟩ := vcOps_run (base := base) (ss := ss) l (k + 1) s' K (fun j => by have := hl (j + 1); simpa [Nat.add_assoc, Nat.add_comm 1 j] using this) (by simpa [Nat.add_assoc] using h')
    exact ⟨t, ⟨⟨dst, none, kk⟩, s', by simpa using (hl 0).symm, ⟨e, ho, happ⟩, hr⟩, hK⟩
  | ⟨dst, some (g, want), kk⟩ :: l, k, s, K, hl, h => by
    simp only [vcOps] at h
    have h0 : ss[k]? = some ⟨dst, some (g, want), kk⟩ := by simpa using (hl 0).symm
    have hl' : ∀ j, l[j]? = ss[k + 1 + j]? := fun j => by have := hl (j + 1); simpa [Nat.add_assoc, Nat.add_comm 1 j] using this
    split at h
    · rename_i b hb
      by_cases hw : b = want
      · subst hw
        rw [if_pos rfl] at h
        obtain ⟨e, s', ho, happ, h'⟩ := vcOp_stp h
        rw [put_self hb] at ho happ
        obtain ⟨t, hr, hK⟩ := vcOps_run (base := base) (ss := ss) l (k + 1) s' K hl' (by simpa [Nat.add_assoc] using h')
        exact ⟨t, ⟨⟨dst, some (g, b), kk⟩, s', h0, ⟨e, .inl ⟨hb, ho⟩, happ⟩, hr⟩, hK⟩
      · have hb' : b = !want := by cases b <;> cases want <;> simp_all
        rw [if_neg hw, put_self (by rw [hb, hb'])] at h
        have h' := h
        obtain ⟨t, hr, hK⟩ := vcOps_run (base := base) (ss := ss) l (k + 1) _ K hl' (by simpa [Nat.add_assoc] using h')
        exact ⟨t, ⟨⟨dst, some (g, want), kk⟩, _, h0, ⟨_, .inr ⟨.inl (by rw [hb, hb']), rfl⟩, rfl⟩, hr⟩, hK⟩
    · rename_i hb
      obtain ⟨t, hr, hK⟩ := vcOps_run (base := base) (ss := ss) l (k + 1) _ K hl' (by simpa [Nat.add_assoc] using h)
      exact ⟨t, ⟨⟨dst, some (g, want), kk⟩, _, h0, ⟨_, .inr ⟨.inr hb, rfl⟩, rfl⟩, hr⟩, hK⟩
    · exact h.elim

/-! ### Two neighbours change places -/

theorem noLab_labs {v : SV} (h : v.noLab = true) : v.labs = [] := by
  cases v
  case agg cs =>
    simp only [SV.noLab, List.all_eq_true] at h
    simp only [SV.labs, SV.lab1, List.flatMap_eq_nil_iff]
    intro c hc
    have := h c hc
    cases c <;> simp_all [SV.noLab0, SV.lab0]
  case tup vs => simp [SV.noLab] at h
  all_goals first
    | rfl
    | (simp [SV.noLab, SV.noLab0] at h; done)

theorem res0_congr {m m' : Nat → Cel} {v : SV} (h : ∀ d ∈ v.lab0, m d = m' d) : v.res0 m = v.res0 m' := by
  cases v <;> simp_all [SV.res0, SV.lab0]
theorem res1_congr {m m' : Nat → Cel} {v : SV} (h : ∀ d ∈ v.labs, m d = m' d) : v.res1 m = v.res1 m' := by
  cases v
  case agg cs =>
    simp only [SV.res1]
    rw [List.map_congr_left fun c hc => res0_congr fun d hd => h d (by simp only [SV.labs, SV.lab1, List.mem_flatMap]; exact ⟨c, hc, hd⟩)]
  case tup vs => rfl
  all_goals
    simp only [SV.res1]
    exact res0_congr fun d hd => h d hd
theorem effM_congr {Γ : Gam} {k : SK} {vs : List SV} {m m' : Nat → Cel} (h : ∀ v ∈ vs, ∀ d ∈ v.labs, m d = m' d) : effM Γ k vs m = effM Γ k vs m' := by
  have hres : vs.map (SV.res1 m) = vs.map (SV.res1 m') := List.map_congr_left fun v hv => res1_congr (h v hv)
  have hd : ∀ d o, .ptr d o ∈ vs → m d = m' d := fun d o hm => h _ hm d (by simp [SV.labs, SV.lab1, SV.lab0])
  unfold effM
  split
  · rfl
  · rfl
  · rename_i n x L d o; rw [hd d o (by simp)]
  · rename_i n x y L d o v; rw [hd d o (by simp)]
  · rw [hres]
  · rfl
theorem eff_congr {Γ : Gam} {k : SK} {vs : List SV} {m m' : Nat → Cel} (h : k.pure = false → ∀ v ∈ vs, ∀ d ∈ v.labs, m d = m' d) : eff Γ k vs m = eff Γ k vs m' := by
  unfold eff
  by_cases hk : k.pure = true
  · simp only [hk, if_true]
  · simp only [hk, Bool.false_eq_true, if_false]
    exact effM_congr (h (by simpa using hk))

/-- What an operation leaves alone. -/
theorem app_fr {lab : Nat} {dst : Option Nat} {s s' : St} {e : Eff} (h : app lab dst s e = some s') : ∀ t, dst ≠ some t → s'.fr t = s.fr t := by
  intro t ht
  have hp : ∀ (u : St) (v : SV), (u.put dst v).fr t = u.fr t := fun u v => by
    cases dst with
    | none => rfl
    | some d => simp only [St.put]; rw [if_neg]; intro he; exact ht (by rw [he])
  cases e with
  | val v => simp only [app, Option.some.injEq] at h; subst h; exact hp _ _
  | newvar T cs =>
    simp only [app] at h
    split at h
    · simp only [Option.some.injEq] at h; subst h; exact (hp _ _).trans rfl
    · cases h
  | setvar d T cs => simp only [app, Option.some.injEq] at h; subst h; exact (hp _ _).trans rfl
/-- The label that an effect turns. -/
def Eff.at (lab : Nat) : Eff → Option Nat
  | .val _ => none
  | .newvar _ _ => some lab
  | .setvar d _ _ => some d
def Eff.cel : Eff → Cel
  | .val _ => .dead
  | .newvar T cs => .var T cs
  | .setvar _ T cs => .var T cs
def Eff.out (lab : Nat) : Eff → SV
  | .val v => v
  | .newvar _ _ => .ptr lab 0
  | .setvar .. => .tup []
def St.seto (s : St) : Option Nat → Cel → St
  | some d, c => s.setm d c
  | none, _ => s
/-- The effects in one form. -/
theorem app_eq {lab : Nat} {dst : Option Nat} {s s' : St} {e : Eff} : app lab dst s e = some s' ↔ (∀ T cs, e = .newvar T cs → (s.mem lab).isFresh = true) ∧ s' = (s.seto (e.at lab) e.cel).put dst (e.out lab) := by
  cases e with
  | val v =>
    simp only [app, Eff.at, Eff.out, St.seto, Option.some.injEq]
    exact ⟨fun h => ⟨fun _ _ hh => (by cases hh), h.symm⟩, fun h => h.2.symm⟩
  | newvar T cs =>
    simp only [app, Eff.at, Eff.out, Eff.cel, St.seto]
    split
    · rename_i hf
      simp only [Option.some.injEq]
      exact ⟨fun h => ⟨fun _ _ _ => hf, h.symm⟩, fun h => h.2.symm⟩
    · rename_i hf
      exact ⟨fun h => (by cases h), fun h => absurd (h.1 T cs rfl) hf⟩
  | setvar d T cs =>
    simp only [app, Eff.at, Eff.out, Eff.cel, St.seto, Option.some.injEq]
    exact ⟨fun h => ⟨fun _ _ hh => (by cases hh), h.symm⟩, fun h => h.2.symm⟩

theorem mem_put {s : St} {dst : Option Nat} {v : SV} : (s.put dst v).mem = s.mem := by cases dst <;> rfl
theorem fr_seto {s : St} {d : Option Nat} {c : Cel} : (s.seto d c).fr = s.fr := by cases d <;> rfl
theorem mem_seto {s : St} {d : Option Nat} {c : Cel} {e : Nat} (h : d ≠ some e) : (s.seto d c).mem e = s.mem e := by
  cases d with
  | none => rfl
  | some d => simp only [St.seto, St.setm, setM]; rw [if_neg]; intro he; exact h (by rw [he])

theorem put_put_comm {s : St} {x y : Option Nat} {u v : SV} (h : ∀ d, x = some d → y ≠ some d) : (s.put x u).put y v = (s.put y v).put x u := by
  cases x with
  | none => rfl
  | some d =>
    cases y with
    | none => rfl
    | some e =>
      have hne : d ≠ e := fun he => h d rfl (by rw [he])
      simp only [St.put]
      congr 1
      funext t
      by_cases h1 : t = e
      · subst h1; simp [Ne.symm hne]
      · simp [h1]
theorem seto_put {s : St} {d : Option Nat} {c : Cel} {x : Option Nat} {v : SV} : (s.put x v).seto d c = (s.seto d c).put x v := by
  cases d <;> cases x <;> rfl
theorem seto_comm {s : St} {d e : Option Nat} {c c' : Cel} (h : ∀ x, d = some x → e ≠ some x) : (s.seto d c).seto e c' = (s.seto e c').seto d c := by
  cases d with
  | none => rfl
  | some d =>
    cases e with
    | none => rfl
    | some e =>
      have hne : d ≠ e := fun he => h d rfl (by rw [he])
      simp only [St.seto, St.setm]
      congr 1
      funext t
      simp only [setM]
      by_cases h1 : t = e
      · subst h1; simp [Ne.symm hne]
      · simp [h1]

theorem effM_at {Γ : Gam} {k : SK} {vs : List SV} {m : Nat → Cel} {p : Prop} {e : Eff} (h : effM Γ k vs m = some (p, e)) (hw : k.writes = false) : (∃ v, e = .val v) ∨ ∃ T cs, e = .newvar T cs := by
  unfold effM at h
  split at h
  · split at h
    · simp only [Option.some.injEq, Prod.mk.injEq] at h; exact .inr ⟨_, _, h.2.symm⟩
    · cases h
  · simp only [Option.some.injEq, Prod.mk.injEq] at h; exact .inr ⟨_, _, h.2.symm⟩
  · split at h
    · split at h
      · obtain ⟨v, _, h⟩ := Option.map_eq_some_iff.1 h
        simp only [Prod.mk.injEq] at h
        exact .inl ⟨_, h.2.symm⟩
      · cases h
    · cases h
  · simp [SK.writes] at hw
  · split at h
    · obtain ⟨v, _, h⟩ := Option.map_eq_some_iff.1 h
      simp only [Prod.mk.injEq] at h
      exact .inl ⟨_, h.2.symm⟩
    · cases h
  · cases h
theorem eff_at {Γ : Gam} {k : SK} {vs : List SV} {m : Nat → Cel} {p : Prop} {e : Eff} (h : eff Γ k vs m = some (p, e)) : (k.pure = true → ∃ v, e = .val v) ∧ (k.writes = false → (∃ v, e = .val v) ∨ ∃ T cs, e = .newvar T cs) := by
  unfold eff at h
  by_cases hk : k.pure = true
  · simp only [hk, if_true] at h
    obtain ⟨v, _, h⟩ := Option.map_eq_some_iff.1 h
    simp only [Prod.mk.injEq] at h
    exact ⟨fun _ => ⟨_, h.2.symm⟩, fun _ => .inl ⟨_, h.2.symm⟩⟩
  · simp only [hk, Bool.false_eq_true, if_false] at h
    exact ⟨fun hh => absurd hh hk, effM_at h⟩
theorem out_at {Γ : Gam} {o : SOp} {s : St} {e : Eff} (h : Out Γ o s e) : (o.k.pure = true → ∃ v, e = .val v) ∧ (o.k.writes = false → (∃ v, e = .val v) ∨ ∃ T cs, e = .newvar T cs) := by
  unfold Out at h
  split at h
  · obtain ⟨p, h, _⟩ := h; exact eff_at h
  · rcases h with ⟨_, p, h, _⟩ | ⟨_, rfl⟩
    · exact eff_at h
    · exact ⟨fun _ => ⟨_, rfl⟩, fun _ => .inl ⟨_, rfl⟩⟩

/-- An operation comes to the same in two states that differ only in what it does not look at. -/
theorem Out.same {Γ : Gam} {o : SOp} {s s' : St} {e : Eff} (hfr : ∀ t ∈ o.looks, s'.fr t = s.fr t) (hm : ∀ p, eff Γ o.k (o.k.opnds.map (SO.ev s)) s.mem = some (p, e) → o.k.pure = false → ∀ x ∈ o.k.opnds, ∀ d ∈ (x.ev s).labs, s'.mem d = s.mem d) (h : Out Γ o s e) : Out Γ o s' e := by
  have hev : o.k.opnds.map (SO.ev s') = o.k.opnds.map (SO.ev s) := List.map_congr_left fun x hx => by
    cases x with
    | c v => rfl
    | t n =>
      refine hfr n ?_
      simp only [SOp.looks, List.mem_append, List.mem_filterMap]
      exact .inl ⟨_, hx, rfl⟩
  have he : ∀ p, eff Γ o.k (o.k.opnds.map (SO.ev s)) s.mem = some (p, e) → eff Γ o.k (o.k.opnds.map (SO.ev s')) s'.mem = some (p, e) := fun p hp => by
    rw [hev, ← hp]
    refine eff_congr fun hk v hv d hd => ?_
    obtain ⟨x, hx, rfl⟩ := List.mem_map.1 hv
    exact hm p hp hk x hx d hd
  unfold Out at h ⊢
  cases hg : o.g with
  | none =>
    simp only [hg] at h ⊢
    obtain ⟨p, h1, h2⟩ := h
    exact ⟨p, he p h1, h2⟩
  | some gw =>
    obtain ⟨g, want⟩ := gw
    have : s'.fr g = s.fr g := hfr g (by simp [SOp.looks, hg])
    simp only [hg, this] at h ⊢
    rcases h with ⟨h0, p, h1, h2⟩ | h
    · exact .inl ⟨h0, p, he p h1, h2⟩
    · exact .inr h

theorem apart_spec {x y : SOp} (h : x.apart y = true) : (∀ d, x.dst = some d → d ∉ y.looks) ∧ (∀ d, x.dst = some d → y.dst ≠ some d) ∧ ∀ d, y.dst = some d → d ∉ x.looks := by
  simp only [SOp.apart, Bool.and_eq_true] at h
  refine ⟨fun d hd => ?_, fun d hd => ?_, fun d hd => ?_⟩
  · have := h.1; simp only [hd, Bool.and_eq_true, Bool.not_eq_eq_eq_not, Bool.not_true, List.contains_eq_mem, decide_eq_false_iff_not] at this; exact this.1
  · have := h.1; simp only [hd, Bool.and_eq_true, bne_iff_ne] at this; exact this.2
  · have := h.2; simp only [hd, Bool.not_eq_eq_eq_not, Bool.not_true, List.contains_eq_mem, decide_eq_false_iff_not] at this; exact this

theorem eff_load {Γ : Gam} {n : Option Nat} {x : SO} {A : Nat} {vs : List SV} {m : Nat → Cel} {p : Prop} {e : Eff} (h : eff Γ (.load n x (some A)) vs m = some (p, e)) : (∃ o, vs = [.ptr A o]) ∧ ∃ v, e = .val v := by
  simp only [eff, SK.pure, Bool.false_eq_true, if_false] at h
  match vs, h with
  | [.ptr d o], h =>
    simp only [effM] at h
    split at h
    · rename_i hl
      simp only [labOk, beq_iff_eq] at hl
      subst hl
      split at h
      · obtain ⟨v, _, h⟩ := Option.map_eq_some_iff.1 h
        simp only [Prod.mk.injEq] at h
        exact ⟨⟨o, rfl⟩, _, h.2.symm⟩
      · cases h
    · cases h
theorem eff_store {Γ : Gam} {n : Nat} {x y : SO} {B : Nat} {vs : List SV} {m : Nat → Cel} {p : Prop} {e : Eff} (h : eff Γ (.store n x y (some B)) vs m = some (p, e)) : ∃ T cs, e = .setvar B T cs := by
  simp only [eff, SK.pure, Bool.false_eq_true, if_false] at h
  match vs, h with
  | [.ptr d o, v], h =>
    simp only [effM] at h
    split at h
    · rename_i hl
      simp only [labOk, beq_iff_eq] at hl
      subst hl
      split at h
      · split at h
        · simp only [Option.some.injEq, Prod.mk.injEq] at h
          exact ⟨_, _, h.2.symm⟩
        · cases h
      · cases h
    · cases h
theorem out_load {Γ : Gam} {o : SOp} {n : Option Nat} {x : SO} {A : Nat} (hk : o.k = .load n x (some A)) {s : St} {e : Eff} (h : Out Γ o s e) : ∃ v, e = .val v := by
  unfold Out at h
  rw [hk] at h
  split at h
  · obtain ⟨p, h, _⟩ := h; exact (eff_load h).2
  · rcases h with ⟨_, p, h, _⟩ | ⟨_, rfl⟩
    · exact (eff_load h).2
    · exact ⟨_, rfl⟩
theorem out_store {Γ : Gam} {o : SOp} {n : Nat} {x y : SO} {B : Nat} (hk : o.k = .store n x y (some B)) {s : St} {e : Eff} (h : Out Γ o s e) : (∃ v, e = .val v) ∨ ∃ T cs, e = .setvar B T cs := by
  unfold Out at h
  rw [hk] at h
  split at h
  · obtain ⟨p, h, _⟩ := h; exact .inr (eff_store h)
  · rcases h with ⟨_, p, h, _⟩ | ⟨_, rfl⟩
    · exact .inr (eff_store h)
    · exact .inl ⟨_, rfl⟩
theorem twoVars_spec {a b : SK} (h : a.twoVars b = true) : (∃ n x A n' y z B, a = .load n x (some A) ∧ b = .store n' y z (some B) ∧ A ≠ B) ∨ (∃ n x A n' y z B, a = .store n' y z (some B) ∧ b = .load n x (some A) ∧ A ≠ B) := by
  unfold SK.twoVars at h
  split at h
  · exact .inl ⟨_, _, _, _, _, _, _, rfl, rfl, by simpa using h⟩
  · exact .inr ⟨_, _, _, _, _, _, _, rfl, rfl, by simpa using h⟩
  · cases h

/-- **Two neighbours of which neither waits for the other change places.** -/
theorem swap {Γ : Gam} {lj li : Nat} {oj oi : SOp} {s s1 s2 : St} (hl : lj ≠ li) (hc : oj.comm oi = true) (hwf : ∀ t, ∀ d ∈ (s.fr t).labs, (s.mem d).isFresh = false) (h1 : Stp Γ lj oj s s1) (h2 : Stp Γ li oi s1 s2) :
    ∃ s1', Stp Γ li oi s s1' ∧ Stp Γ lj oj s1' s2 := by
  simp only [SOp.comm, Bool.and_eq_true] at hc
  obtain ⟨⟨⟨hap, hcj⟩, hci⟩, hcl⟩ := hc
  obtain ⟨a1, a2, a3⟩ := apart_spec hap
  obtain ⟨ej, hoj, hj⟩ := h1
  obtain ⟨ei, hoi, hi⟩ := h2
  obtain ⟨hj1, rfl⟩ := app_eq.1 hj
  obtain ⟨hi1, rfl⟩ := app_eq.1 hi
  have hlab : ∀ (o : SOp), o.closed = true → ∀ x ∈ o.k.opnds, ∀ d ∈ (x.ev s).labs, (s.mem d).isFresh = false := fun o hco x hx d hd => by
    cases x with
    | t m => exact hwf m d hd
    | c v =>
      simp only [SOp.closed, List.all_eq_true] at hco
      have := hco _ hx
      simp only at this
      rw [SO.ev, noLab_labs this] at hd
      cases hd
  have hjat := out_at hoj
  have hiat := out_at hoi
  have hfr1 : ∀ t ∈ oi.looks, s.fr t = ((s.seto (ej.at lj) ej.cel).put oj.dst (ej.out lj)).fr t := fun t ht => by
    have := app_fr hj t (fun hh => a1 t hh ht)
    exact this.symm
  have hev1 : ∀ x ∈ oi.k.opnds, x.ev ((s.seto (ej.at lj) ej.cel).put oj.dst (ej.out lj)) = x.ev s := fun x hx => by
    cases x with
    | c v => rfl
    | t m =>
      refine (hfr1 m ?_).symm
      simp only [SOp.looks, List.mem_append, List.mem_filterMap]
      exact .inl ⟨_, hx, rfl⟩
  -- at most one of the two turns a label that the other looks at
  have hnew : ∀ (T : Nat) (cs : List SV), ej = .newvar T cs → ∀ d, (s.mem d).isFresh = false → ej.at lj ≠ some d := fun T cs he d hd hh => by
    subst he
    simp only [Eff.at, Option.some.injEq] at hh
    subst hh
    rw [hj1 T cs rfl] at hd; cases hd
  have hval : ∀ (l : Nat) (e : Eff), (∃ v, e = .val v) → ∀ d, e.at l ≠ some d := fun l e ⟨v, hv⟩ d hh => by subst hv; simp [Eff.at] at hh
  have hcase : (∀ x, ej.at lj = some x → ei.at li ≠ some x) ∧
      (∀ p, eff Γ oi.k (oi.k.opnds.map (SO.ev ((s.seto (ej.at lj) ej.cel).put oj.dst (ej.out lj)))) ((s.seto (ej.at lj) ej.cel).put oj.dst (ej.out lj)).mem = some (p, ei) → oi.k.pure = false → ∀ x ∈ oi.k.opnds, ∀ d ∈ (x.ev s).labs, ej.at lj ≠ some d) ∧
      ((∀ T cs, ei = .newvar T cs → (s.mem li).isFresh = true) → ∀ p, eff Γ oj.k (oj.k.opnds.map (SO.ev s)) s.mem = some (p, ej) → oj.k.pure = false → ∀ x ∈ oj.k.opnds, ∀ d ∈ (x.ev s).labs, ei.at li ≠ some d) := by
    simp only [Bool.or_eq_true, Bool.and_eq_true] at hcl
    rcases hcl with ((⟨h1, h2⟩ | ⟨h1, h2⟩) | ⟨h1, h2⟩) | h1
    · have e1 := hjat.2 (by simpa using h1)
      have e2 := hiat.2 (by simpa using h2)
      refine ⟨fun x hx hx' => ?_, fun p _ _ x hx d hd => ?_, fun hfr p _ _ x hx d hd => ?_⟩
      · rcases e1 with e1 | ⟨T, cs, rfl⟩
        · exact hval lj ej e1 x hx
        · rcases e2 with e2 | ⟨T', cs', rfl⟩
          · exact hval li ei e2 x hx'
          · simp only [Eff.at, Option.some.injEq] at hx hx'
            exact hl (hx.trans hx'.symm)
      · rcases e1 with e1 | ⟨T, cs, e1⟩
        · exact hval lj ej e1 d
        · exact hnew T cs e1 d (hlab oi hci x hx d hd)
      · rcases e2 with e2 | ⟨T, cs, e2⟩
        · exact hval li ei e2 d
        · intro hh
          have hf := hfr T cs e2
          subst e2
          simp only [Eff.at, Option.some.injEq] at hh
          subst hh
          have := hlab oj hcj x hx _ hd
          rw [hf] at this; cases this
    · have e2 := hiat.1 h2
      exact ⟨fun x _ => hval li ei e2 x, fun p _ hh => (by rw [h2] at hh; cases hh), fun _ p _ _ x _ d _ => hval li ei e2 d⟩
    · have e1 := hjat.1 h1
      exact ⟨fun x hx => absurd hx (hval lj ej e1 x), fun p _ _ x _ d _ => hval lj ej e1 d, fun _ p _ hh => (by rw [h1] at hh; cases hh)⟩
    · -- a load and a store of two variables
      rcases twoVars_spec h1 with ⟨n, x, A, n', y, z, B, hkj, hki, hAB⟩ | ⟨n, x, A, n', y, z, B, hkj, hki, hAB⟩
      · have e1 := out_load hkj hoj
        refine ⟨fun x hx => absurd hx (hval lj ej e1 x), fun p _ _ x _ d _ => hval lj ej e1 d, fun _ p hp _ x' hx' d hd hh => ?_⟩
        rw [hkj] at hp
        obtain ⟨o', ho'⟩ := (eff_load hp).1
        have : x'.ev s ∈ (SK.load n x (some A)).opnds.map (SO.ev s) := List.mem_map.2 ⟨x', by rw [← hkj]; exact hx', rfl⟩
        rw [ho'] at this
        simp only [List.mem_singleton] at this
        rw [this] at hd
        simp [SV.labs, SV.lab1, SV.lab0] at hd
        subst hd
        rcases out_store hki hoi with ⟨v, rfl⟩ | ⟨T, cs, rfl⟩
        · simp [Eff.at] at hh
        · simp only [Eff.at, Option.some.injEq] at hh; exact hAB hh.symm
      · have e2 := out_load hki hoi
        refine ⟨fun x _ => hval li ei e2 x, fun p hp _ x' hx' d hd hh => ?_, fun _ p _ _ x _ d _ => hval li ei e2 d⟩
        rw [hki] at hp
        obtain ⟨o', ho'⟩ := (eff_load hp).1
        have : x'.ev ((s.seto (ej.at lj) ej.cel).put oj.dst (ej.out lj)) ∈ (SK.load n x (some A)).opnds.map (SO.ev ((s.seto (ej.at lj) ej.cel).put oj.dst (ej.out lj))) := List.mem_map.2 ⟨x', by rw [← hki]; exact hx', rfl⟩
        rw [ho', hev1 x' hx'] at this
        simp only [List.mem_singleton] at this
        rw [this] at hd
        simp [SV.labs, SV.lab1, SV.lab0] at hd
        subst hd
        rcases out_store hkj hoj with ⟨v, rfl⟩ | ⟨T, cs, rfl⟩
        · simp [Eff.at] at hh
        · simp only [Eff.at, Option.some.injEq] at hh; exact hAB hh.symm
  obtain ⟨hdis, hJ, hI⟩ := hcase
  have hfri : ∀ T cs, ei = .newvar T cs → (s.mem li).isFresh = true := fun T cs he => by
    have := hi1 T cs he
    rw [mem_put, mem_seto] at this
    · exact this
    · intro hh; exact hdis li hh (by rw [he]; rfl)
  have hoi' : Out Γ oi s ei := hoi.same hfr1 fun p hp hk x hx d hd => by
    rw [hev1 x hx] at hd
    rw [mem_put, mem_seto (hJ p hp hk x hx d hd)]
  have hi' : app li oi.dst s ei = some ((s.seto (ei.at li) ei.cel).put oi.dst (ei.out li)) := app_eq.2 ⟨hfri, rfl⟩
  have hoj' : Out Γ oj ((s.seto (ei.at li) ei.cel).put oi.dst (ei.out li)) ej := hoj.same (fun t ht => app_fr hi' t (fun hh => a3 t hh ht)) fun p hp hk x hx d hd => by
    rw [mem_put, mem_seto (hI hfri p hp hk x hx d hd)]
  refine ⟨_, ⟨ei, hoi', hi'⟩, ej, hoj', app_eq.2 ⟨fun T cs he => ?_, ?_⟩⟩
  · rw [mem_put, mem_seto]
    · exact hj1 T cs he
    · intro hh; exact hdis lj (by rw [he]; rfl) hh
  · rw [seto_put, seto_put, seto_comm hdis, put_put_comm a2]
end Go.Proofs.Ytjmkmcjpppdglaa.Sx
