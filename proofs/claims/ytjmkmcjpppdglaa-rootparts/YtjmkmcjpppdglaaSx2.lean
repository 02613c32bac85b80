/- The symbolic walk is sound: the first part: what a state says of a frame and of the memory; values, new variables, stores. -/
import Derived.Test.YtjmkmcjpppdglaaSx1
import Derived.Lib.SmallJoins
namespace Go.Proofs.Ytjmkmcjpppdglaa.Sx
open Go.RowKit

def Row.vals : Row → List Value
  | .ints k l => l.map (.int k)
  | .bools l => l.map .bool
  | .strs l => l.map fun s => .string ⟨s.toArray⟩

/-- The slice v holds these cells. -/
def RdRow (w : World) (v : Value) (xs : List Value) : Prop :=
  (v = .slice none 0 0 ∧ xs = []) ∨
  ∃ b o c, v = .slice (some ⟨b, o, none⟩) xs.length c ∧ b < w.heap.size ∧ ∀ j u, xs[j]? = some u → w.cell? ⟨b, o + j, none⟩ = some u

/-- A slice's header. -/
structure Sl where
  a : Option Addr
  len : Nat
  cap : Nat
  deriving Inhabited
def Sl.val (s : Sl) : Value := .slice s.a s.len s.cap

def den0 (β : Nat → Nat) (σ : Nat → Sl) : SV → Value
  | .int k n => .int k n
  | .bool b => .bool b
  | .str s => .string ⟨s.toArray⟩
  | .nil => .slice none 0 0
  | .func f => .func (.func f) #[] #[]
  | .sl d => (σ d).val
  | .ptr d o => .pointer (some ⟨β d, o, none⟩)
  | .elem d o => match (σ d).a with
    | some a => .pointer (some (a.add o))
    | none => undef
  | _ => undef
def den1 (β : Nat → Nat) (σ : Nat → Sl) : SV → Value
  | .agg cs => .agg (cs.map (den0 β σ)).toArray
  | v => den0 β σ v
def den (β : Nat → Nat) (σ : Nat → Sl) : SV → Value
  | .tup vs => .tuple (vs.map (den1 β σ)).toArray
  | v => den1 β σ v

def CelOk (W w : World) (β : Nat → Nat) (σ : Nat → Sl) (d : Nat) : Cel → Prop
  | .var T cs => W.heap.size ≤ β d ∧ w.heap[β d]? = some (.cells (cs.map (den0 β σ)).toArray T (0, 0))
  | .row own e r => RdRow w (σ d).val r.vals ∧ (own = true → w.ownsRow W.heap.size e 1 (σ d).val r.vals.length r.vals)
  | _ => True
def wblk (β : Nat → Nat) (σ : Nat → Sl) (d : Nat) : Cel → Option Nat
  | .var _ _ => some (β d)
  | .row true _ _ => (σ d).val.ownBlock
  | _ => none
def ablk (β : Nat → Nat) (σ : Nat → Sl) (d : Nat) : Cel → Option Nat
  | .var _ _ => some (β d)
  | .row _ _ _ => (σ d).val.ownBlock
  | _ => none

structure SimW (n : Nat) (W : World) (s : St) (a : Act) (w : World) (β : Nat → Nat) (σ : Nat → Sl) : Prop where
  size : a.tmps.size = n
  defers : a.defers = []
  bel : Below W.heap.size W w
  fr : ∀ t, s.fr t ≠ .unk → a.tmps[t]? = some (den β σ (s.fr t))
  lab : ∀ t, ∀ d ∈ (s.fr t).labs, (s.mem d).isFresh = false
  mlab : ∀ d T cs, s.mem d = .var T cs → ∀ c ∈ cs, c.one = true ∧ ∀ d' ∈ c.lab0, (s.mem d').isFresh = false
  mem : ∀ d, CelOk W w β σ d (s.mem d)
  sep : ∀ d d' b, d ≠ d' → wblk β σ d (s.mem d) = some b → ablk β σ d' (s.mem d') ≠ some b
def Sim (n : Nat) (W : World) (s : St) (a : Act) (w : World) : Prop := ∃ β σ, SimW n W s a w β σ

/-! ### Small laws -/

theorem den_tup0 (β : Nat → Nat) (σ : Nat → Sl) : den β σ (.tup []) = undef := rfl
theorem den_of_one {v : SV} (h : v.one = true) (β : Nat → Nat) (σ : Nat → Sl) : den β σ v = den0 β σ v := by
  cases v <;> simp [SV.one] at h <;> rfl
theorem labs_of_one {v : SV} (h : v.one = true) : v.labs = v.lab0 := by
  cases v <;> simp [SV.one] at h <;> rfl
theorem den0_congr {β β' : Nat → Nat} {σ σ' : Nat → Sl} {v : SV} (h : ∀ d ∈ v.lab0, β' d = β d ∧ σ' d = σ d) : den0 β' σ' v = den0 β σ v := by
  cases v <;> simp_all [den0, SV.lab0]
theorem map_den0_congr {β β' : Nat → Nat} {σ σ' : Nat → Sl} {cs : List SV} (h : ∀ c ∈ cs, ∀ d ∈ c.lab0, β' d = β d ∧ σ' d = σ d) : cs.map (den0 β' σ') = cs.map (den0 β σ) :=
  List.map_congr_left fun c hc => den0_congr (h c hc)
theorem den1_congr {β β' : Nat → Nat} {σ σ' : Nat → Sl} {v : SV} (h : ∀ d ∈ v.lab1, β' d = β d ∧ σ' d = σ d) : den1 β' σ' v = den1 β σ v := by
  cases v
  case agg cs =>
    simp only [den1]
    rw [map_den0_congr fun c hc d hd => h d (by simp only [SV.lab1, List.mem_flatMap]; exact ⟨c, hc, hd⟩)]
  all_goals (simp only [den1]; exact den0_congr fun d hd => h d hd)
theorem den_congr {β β' : Nat → Nat} {σ σ' : Nat → Sl} {v : SV} (h : ∀ d ∈ v.labs, β' d = β d ∧ σ' d = σ d) : den β' σ' v = den β σ v := by
  cases v
  case tup vs =>
    simp only [den]
    rw [List.map_congr_left fun c hc => den1_congr fun d hd => h d (by simp only [SV.labs, List.mem_flatMap]; exact ⟨c, hc, hd⟩)]
  all_goals (simp only [den]; exact den1_congr fun d hd => h d hd)

theorem svOf0_den {v : Value} {x : SV} (h : svOf0 v = some x) (β : Nat → Nat) (σ : Nat → Sl) : den0 β σ x = v ∧ x.lab0 = [] ∧ x.one = true := by
  unfold svOf0 at h
  split at h <;> simp at h <;> subst h <;> simp [den0, SV.lab0, SV.one]
theorem mapM_svOf0_den : ∀ {vs : List Value} {xs : List SV}, vs.mapM svOf0 = some xs → ∀ (β : Nat → Nat) (σ : Nat → Sl), xs.map (den0 β σ) = vs ∧ ∀ x ∈ xs, x.lab0 = [] ∧ x.one = true
  | [], xs, h, β, σ => by simp at h; subst h; simp
  | v :: vs, xs, h, β, σ => by
    simp only [List.mapM_cons, Option.bind_eq_bind, Option.pure_def, Option.bind_eq_some_iff] at h
    obtain ⟨x, hx, ys, hys, rfl⟩ := by simpa using h
    obtain ⟨e1, e2, e3⟩ := svOf0_den hx β σ
    obtain ⟨i1, i2⟩ := mapM_svOf0_den hys β σ
    refine ⟨by simp [e1, i1], fun y hy => ?_⟩
    rcases List.mem_cons.1 hy with rfl | hy
    · exact ⟨e2, e3⟩
    · exact i2 y hy
theorem svOf_den {v : Value} {x : SV} (h : svOf v = some x) (β : Nat → Nat) (σ : Nat → Sl) : den β σ x = v ∧ x.labs = [] ∧ x ≠ .unk := by
  unfold svOf at h
  split at h
  · rename_i cs
    simp only [Option.map_eq_some_iff] at h
    obtain ⟨xs, hxs, rfl⟩ := h
    obtain ⟨e1, e2⟩ := mapM_svOf0_den hxs β σ
    refine ⟨by simp [den, den1, e1], ?_, by simp⟩
    simp only [SV.labs, SV.lab1, List.flatMap_eq_nil_iff]
    exact fun x hx => (e2 x hx).1
  · obtain ⟨e1, e2, e3⟩ := svOf0_den h β σ
    exact ⟨(den_of_one e3 β σ).trans e1, (labs_of_one e3).trans e2, by intro hh; subst hh; simp [SV.one] at e3⟩

theorem eval_of {n : Nat} {W : World} {s : St} {a : Act} {w : World} {β : Nat → Nat} {σ : Nat → Sl} (hs : SimW n W s a w β σ) {x : Operand} {y : SO} (h : cO x = some y) (hu : y.ev s ≠ .unk) : a.eval x = den β σ (y.ev s) := by
  cases x with
  | tmp t =>
    simp [cO] at h; subst h
    have := hs.fr t hu
    simp [Act.eval, SO.ev, this]
  | const v =>
    simp only [cO, Option.map_eq_some_iff] at h
    obtain ⟨x, hx, rfl⟩ := h
    exact (svOf_den hx β σ).1.symm
  | global g => simp [cO] at h
  | func f => simp [cO] at h; subst h; rfl
theorem labs_of {n : Nat} {W : World} {s : St} {a : Act} {w : World} {β : Nat → Nat} {σ : Nat → Sl} (hs : SimW n W s a w β σ) {x : Operand} {y : SO} (h : cO x = some y) : ∀ d ∈ (y.ev s).labs, (s.mem d).isFresh = false := by
  cases x with
  | tmp t => simp [cO] at h; subst h; exact hs.lab t
  | const v =>
    simp only [cO, Option.map_eq_some_iff] at h
    obtain ⟨x, hx, rfl⟩ := h
    simp [SO.ev, (svOf_den hx β σ).2.1]
  | global g => simp [cO] at h
  | func f => simp [cO] at h; subst h; simp [SO.ev, SV.labs, SV.lab1, SV.lab0]

/-- A value into a slot. -/
theorem SimW.put {n : Nat} {W : World} {s : St} {a : Act} {w : World} {β : Nat → Nat} {σ : Nat → Sl} (hs : SimW n W s a w β σ) (dst : Option Nat) (hd : ∀ d, dst = some d → d < n) {v : SV} {u : Value}
    (hv : v = .unk ∨ u = den β σ v) (hl : ∀ d ∈ v.labs, (s.mem d).isFresh = false) : SimW n W (s.put dst v) (a.put dst u) w β σ := by
  cases dst with
  | none => exact hs
  | some d =>
    refine ⟨by simp [Act.put, hs.size], by simp [Act.put, hs.defers], hs.bel, fun t ht => ?_, fun t => ?_, hs.mlab, hs.mem, hs.sep⟩
    · simp only [St.put] at ht ⊢
      by_cases h : t = d
      · subst h
        simp only [if_true] at ht ⊢
        have hlt : t < a.tmps.size := by rw [hs.size]; exact hd t rfl
        simp [Act.put, hlt, hv.resolve_left ht]
      · rw [if_neg h] at ht ⊢
        simp [Act.put, Ne.symm h, hs.fr t ht]
    · simp only [St.put]
      by_cases h : t = d
      · simpa [h] using hl
      · simpa [h] using hs.lab t

theorem CelOk.lt {W w : World} {β : Nat → Nat} {σ : Nat → Sl} {d : Nat} {c : Cel} (h : CelOk W w β σ d c) {b : Nat} (hb : ablk β σ d c = some b) : b < w.heap.size := by
  cases c with
  | fresh => simp [ablk] at hb
  | dead => simp [ablk] at hb
  | var T cs =>
    simp [ablk] at hb; subst hb
    exact (Array.getElem?_eq_some_iff.1 h.2).1
  | row own e r =>
    simp only [ablk] at hb
    rcases h.1 with ⟨hv, _⟩ | ⟨b', o, c, hv, hlt, _⟩
    · rw [hv] at hb; simp [Value.ownBlock] at hb
    · rw [hv] at hb; simp [Value.ownBlock] at hb; subst hb; exact hlt
theorem ablk_of_wblk {β : Nat → Nat} {σ : Nat → Sl} {d : Nat} {c : Cel} {b : Nat} (h : wblk β σ d c = some b) : ablk β σ d c = some b := by
  cases c with
  | row own e r => cases own <;> simp_all [wblk, ablk]
  | _ => simp_all [wblk, ablk]

theorem RdRow.same {w w' : World} {v : Value} {xs : List Value} (h : RdRow w v xs) (hs : w.heap.size ≤ w'.heap.size) (hb : ∀ b, v.ownBlock = some b → w'.heap[b]? = w.heap[b]?) : RdRow w' v xs := by
  rcases h with h | ⟨b, o, c, hv, hlt, hc⟩
  · exact .inl h
  · refine .inr ⟨b, o, c, hv, Nat.lt_of_lt_of_le hlt hs, fun j u hu => ?_⟩
    have := hb b (by simp [hv, Value.ownBlock])
    exact (World.cell?_of_block (w := w) (a := ⟨b, o + j, none⟩) this).trans (hc j u hu)
theorem ownsRow_same {w w' : World} {base : Nat} {e : TypeId} {v : Value} {n : Nat} {xs : List Value} (h : w.ownsRow base e 1 v n xs) (hb : ∀ b, v.ownBlock = some b → w'.heap[b]? = w.heap[b]?) : w'.ownsRow base e 1 v n xs := by
  refine ⟨h.1, ?_⟩
  rcases h.2 with hn | ⟨g, cap, cur, hv, h1, h2, r⟩
  · exact .inl hn
  · exact .inr ⟨g, cap, cur, hv, h1, (hb g (by simp [hv, Value.ownBlock])).trans h2, r⟩

/-- What lies behind a label stays as it is where its block does. -/
theorem CelOk.same {W w w' : World} {β β' : Nat → Nat} {σ σ' : Nat → Sl} {d : Nat} {c : Cel} (h : CelOk W w β σ d c) (hs : w.heap.size ≤ w'.heap.size) (hb : ∀ b, ablk β σ d c = some b → w'.heap[b]? = w.heap[b]?)
    (hd : c.isFresh = false → β' d = β d ∧ σ' d = σ d) (hc : ∀ T cs, c = .var T cs → cs.map (den0 β' σ') = cs.map (den0 β σ)) : CelOk W w' β' σ' d c := by
  cases c with
  | fresh => trivial
  | dead => trivial
  | var T cs =>
    obtain ⟨e1, e2⟩ := hd rfl
    simp only [CelOk, e1, hc T cs rfl]
    exact ⟨h.1, (hb _ rfl).trans h.2⟩
  | row own e r =>
    obtain ⟨e1, e2⟩ := hd rfl
    simp only [CelOk, e2]
    exact ⟨h.1.same hs hb, fun ho => ownsRow_same (h.2 ho) hb⟩
theorem wblk_congr {β β' : Nat → Nat} {σ σ' : Nat → Sl} {d : Nat} {c : Cel} (hd : c.isFresh = false → β' d = β d ∧ σ' d = σ d) : wblk β' σ' d c = wblk β σ d c ∧ ablk β' σ' d c = ablk β σ d c := by
  cases c with
  | fresh => exact ⟨rfl, rfl⟩
  | dead => exact ⟨rfl, rfl⟩
  | var T cs => simp [wblk, ablk, (hd rfl).1]
  | row own e r => cases own <;> simp [wblk, ablk, (hd rfl).2]

/-- Behind a call: new blocks may lie there; of the old ones nothing has turned. -/
theorem SimW.below {n : Nat} {W : World} {s : St} {a : Act} {w w' : World} {β : Nat → Nat} {σ : Nat → Sl} (hs : SimW n W s a w β σ) (hb : Below w.heap.size w w') : SimW n W s a w' β σ :=
  ⟨hs.size, hs.defers, hs.bel.trans (hb.mono hs.bel.size), hs.fr, hs.lab, hs.mlab,
    fun d => (hs.mem d).same hb.size (fun b hb' => hb.block b ((hs.mem d).lt hb')) (fun _ => ⟨rfl, rfl⟩) (fun _ _ _ => rfl), hs.sep⟩

/-- A new variable. -/
theorem SimW.newvar {n : Nat} {W : World} {s : St} {a : Act} {w : World} {β : Nat → Nat} {σ : Nat → Sl} (hs : SimW n W s a w β σ) (lab T : Nat) (cs : List SV) (hf : (s.mem lab).isFresh = true)
    (h1 : ∀ c ∈ cs, c.one = true ∧ ∀ d ∈ c.lab0, (s.mem d).isFresh = false) :
    ∃ β', β' lab = w.heap.size ∧ SimW n W (s.setm lab (.var T cs)) a (w.alloc (.cells (cs.map (den0 β σ)).toArray T)) β' σ := by
  refine ⟨fun d => if d = lab then w.heap.size else β d, by simp, ?_⟩
  have hne : ∀ d, (s.mem d).isFresh = false → d ≠ lab := fun d hd he => by subst he; rw [hf] at hd; cases hd
  have hβ : ∀ d, (s.mem d).isFresh = false → (if d = lab then w.heap.size else β d) = β d := fun d hd => if_neg (hne d hd)
  have hcs : cs.map (den0 (fun d => if d = lab then w.heap.size else β d) σ) = cs.map (den0 β σ) := map_den0_congr fun c hc d hd => ⟨hβ d ((h1 c hc).2 d hd), rfl⟩
  have hsz : w.heap.size ≤ (w.alloc (.cells (cs.map (den0 β σ)).toArray T)).heap.size := by simp
  have hmem : ∀ d, d ≠ lab → CelOk W (w.alloc (.cells (cs.map (den0 β σ)).toArray T)) (fun d => if d = lab then w.heap.size else β d) σ d (s.mem d) := fun d hd =>
    (hs.mem d).same hsz (fun b hb => heap_alloc_old w _ ((hs.mem d).lt hb)) (fun _ => ⟨if_neg hd, rfl⟩)
      (fun T' cs' he => map_den0_congr fun c hc d' hd' => ⟨hβ d' ((hs.mlab d T' cs' he c hc).2 d' hd'), rfl⟩)
  have fresh' : ∀ d, (s.mem d).isFresh = false → ((s.setm lab (.var T cs)).mem d).isFresh = false := fun d hd => by
    simp only [St.setm, setM]; split
    · rfl
    · exact hd
  refine ⟨hs.size, hs.defers, hs.bel.alloc hs.bel.size _, fun t ht => ?_, fun t d hd => fresh' d (hs.lab t d hd), fun d T' cs' he c hc => ?_, fun d => ?_, fun d d' b hdd hw ha => ?_⟩
  · rw [hs.fr t ht]
    exact congrArg some (den_congr fun d hd => ⟨hβ d (hs.lab t d hd), rfl⟩).symm
  · simp only [St.setm, setM] at he
    split at he
    · simp at he; obtain ⟨rfl, rfl⟩ := he
      exact ⟨(h1 c hc).1, fun d' hd' => fresh' d' ((h1 c hc).2 d' hd')⟩
    · exact ⟨(hs.mlab d T' cs' he c hc).1, fun d' hd' => fresh' d' ((hs.mlab d T' cs' he c hc).2 d' hd')⟩
  · by_cases hd : d = lab
    · subst hd
      simp only [St.setm, setM, if_true, CelOk, hcs]
      exact ⟨hs.bel.size, heap_alloc_new w _⟩
    · simp only [St.setm, setM, if_neg hd]
      exact hmem d hd
  · simp only [St.setm, setM] at hw ha
    by_cases h : d = lab
    · subst h
      rw [if_neg (Ne.symm hdd)] at ha
      simp [wblk] at hw; subst hw
      rw [(wblk_congr (β := β) (σ := σ) (fun hf' => ⟨if_neg (Ne.symm hdd), rfl⟩)).2] at ha
      exact Nat.lt_irrefl _ ((hs.mem d').lt ha)
    · rw [if_neg h, (wblk_congr (β := β) (σ := σ) (fun _ => ⟨if_neg h, rfl⟩)).1] at hw
      by_cases h' : d' = lab
      · subst h'
        simp [ablk] at ha; subst ha
        exact Nat.lt_irrefl _ ((hs.mem d).lt (ablk_of_wblk hw))
      · rw [if_neg h', (wblk_congr (β := β) (σ := σ) (fun _ => ⟨if_neg h', rfl⟩)).2] at ha
        exact hs.sep d d' b hdd hw ha

/-- Other cells in a variable. -/
theorem SimW.setvar {n : Nat} {W : World} {s : St} {a : Act} {w : World} {β : Nat → Nat} {σ : Nat → Sl} (hs : SimW n W s a w β σ) (d T : Nat) (old cs : List SV) (hm : s.mem d = .var T old)
    (h1 : ∀ c ∈ cs, c.one = true ∧ ∀ d' ∈ c.lab0, (s.mem d').isFresh = false) {w' : World} (hsz : w'.heap.size = w.heap.size) (hos : w'.os = w.os) (htp : w'.tape = w.tape) (hop : w'.output = w.output)
    (hnew : w'.heap[β d]? = some (.cells (cs.map (den0 β σ)).toArray T (0, 0))) (hold : ∀ b, b ≠ β d → w'.heap[b]? = w.heap[b]?) :
    SimW n W (s.setm d (.var T cs)) a w' β σ := by
  have hbd : W.heap.size ≤ β d := by have := hs.mem d; rw [hm] at this; exact this.1
  have hfr : ∀ e, (s.mem e).isFresh = false → ((s.setm d (.var T cs)).mem e).isFresh = false := fun e he => by
    simp only [St.setm, setM]; split
    · rfl
    · exact he
  refine ⟨hs.size, hs.defers, hs.bel.trans ⟨hos, htp, hop, by omega, fun k hk => hold k (by omega)⟩, hs.fr, fun t e he => hfr e (hs.lab t e he), fun e T' cs' he c hc => ?_, fun e => ?_, fun e e' b hee hw ha => ?_⟩
  · simp only [St.setm, setM] at he
    split at he
    · simp at he; obtain ⟨rfl, rfl⟩ := he
      exact ⟨(h1 c hc).1, fun d' hd' => hfr d' ((h1 c hc).2 d' hd')⟩
    · exact ⟨(hs.mlab e T' cs' he c hc).1, fun d' hd' => hfr d' ((hs.mlab e T' cs' he c hc).2 d' hd')⟩
  · by_cases h : e = d
    · subst h
      simp only [St.setm, setM, if_true, CelOk]
      exact ⟨hbd, hnew⟩
    · simp only [St.setm, setM, if_neg h]
      refine (hs.mem e).same (by omega) (fun b hb => hold b fun hh => ?_) (fun _ => ⟨rfl, rfl⟩) (fun _ _ _ => rfl)
      subst hh
      exact hs.sep d e (β d) (Ne.symm h) (by rw [hm]; rfl) hb
  · have key : ∀ x, wblk β σ x ((s.setm d (.var T cs)).mem x) = wblk β σ x (s.mem x) ∧ ablk β σ x ((s.setm d (.var T cs)).mem x) = ablk β σ x (s.mem x) := fun x => by
      by_cases h : x = d
      · subst h; simp [St.setm, setM, hm, wblk, ablk]
      · simp [St.setm, setM, h]
    rw [(key e).1] at hw
    rw [(key e').2] at ha
    exact hs.sep e e' b hee hw ha
end Go.Proofs.Ytjmkmcjpppdglaa.Sx
