/- The second walk is sound: the first part: what a state says of a frame and of the memory; how it goes from one memory to the next. -/
import Derived.Test.YtgklfolmlcfjgaaY1
import Derived.Lib.SmallJoins
import Derived.Laws.AppendOwn
namespace Go.Proofs.Ytgklfolmlcfjgaa.Y
open Go.RowKit
set_option linter.unusedVariables false
set_option linter.unusedSimpArgs false

/-- A slice's header. -/
structure Sl where
  a : Option Addr
  len : Nat
  cap : Nat
  deriving Inhabited
def Sl.val (s : Sl) : Value := .slice s.a s.len s.cap
def Row.Wf : Row SV → Prop
  | .recs n l => ∀ c ∈ l, c.length = n ∧ c.all SV.one = true
  | _ => True

/-- What values are read by: the memory, the blocks that may yet be written, the labels with their states, where they lie. -/
structure Env where
  w : World
  A : Nat → Prop
  L : Nat → Option Nat
  β : Nat → Nat
  σ : Nat → Sl

/-- v is what is said of it. -/
inductive Is (E : Env) : SV → Value → Prop
  | int (k n) : Is E (.int k n) (.int k n)
  | bool (b) : Is E (.bool b) (.bool b)
  | str (s) : Is E (.str s) (.string ⟨s.toArray⟩)
  | nil : Is E .nil (.slice none 0 0)
  | clo (f cs) (vs : List Value) : vs.length = cs.length → (∀ (j : Nat) x u, cs[j]? = some x → vs[j]? = some u → Is E x u) → Is E (.clo f cs) (.func (.func f) #[] vs.toArray)
  | sl (d g cur a l c) : E.L d = some cur → g ≤ cur → (g = cur → Value.slice a l c = (E.σ d).val) → Is E (.sl d g) (.slice a l c)
  | rw0 (r ad c) : r.len = 0 → (ad = none → c = 0) → Is E (.rw r) (.slice ad 0 c)
  | rw (r b o c) (vs : List Value) : r.Wf → r.len ≤ c → ¬ E.A b → b < E.w.heap.size → vs.length = r.cells.length → (∀ (j : Nat) u, vs[j]? = some u → E.w.cell? ⟨b, o + j, none⟩ = some u) →
      (∀ (j : Nat) x u, r.cells[j]? = some x → vs[j]? = some u → Is E x u) → Is E (.rw r) (.slice (some ⟨b, o, none⟩) r.len c)
  | nn (r ad l c) : Is E (.rw r) (.slice (some ad) l c) → Is E (.nn r) (.slice (some ad) l c)
  | ptr (d o c) : E.L d = some c → Is E (.ptr d o) (.pointer (some ⟨E.β d, o, none⟩))
  | elem (d g n i o cur b q) : E.L d = some cur → g ≤ cur → (g = cur → ∃ c, (E.σ d).a = some ⟨b, c, none⟩ ∧ q = c + (i * n + o)) → Is E (.elem d g n i o) (.pointer (some ⟨b, q, none⟩))
  | prt (d g a l cur ad n c) : E.L d = some cur → g ≤ cur → (g = cur → ∃ b q, (E.σ d).a = some ⟨b, q, none⟩ ∧ n = l ∧ (0 < l → ad = some ⟨b, q + a, none⟩)) → Is E (.prt d g a l) (.slice ad n c)
  | gp (g o) : Is E (.gp g o) (.pointer (some ⟨g, o, none⟩))
  | fz (cs b o) (vs : List Value) : ¬ E.A b → b < E.w.heap.size → vs.length = cs.length → (∀ (j : Nat) u, vs[j]? = some u → E.w.cell? ⟨b, o + j, none⟩ = some u) →
      (∀ (j : Nat) x u, cs[j]? = some x → vs[j]? = some u → Is E x u) → Is E (.fz cs) (.pointer (some ⟨b, o, none⟩))
  | agg (cs) (vs : List Value) : vs.length = cs.length → (∀ (j : Nat) x u, cs[j]? = some x → vs[j]? = some u → Is E x u) → Is E (.agg cs) (.agg vs.toArray)
  | tup (cs) (vs : List Value) : vs.length = cs.length → (∀ (j : Nat) x u, cs[j]? = some x → vs[j]? = some u → Is E x u) → Is E (.tup cs) (.tuple vs.toArray)

def All (E : Env) (cs : List SV) (vs : List Value) : Prop := vs.length = cs.length ∧ ∀ (j : Nat) x u, cs[j]? = some x → vs[j]? = some u → Is E x u
/-- .. but for those that are unknown. -/
def AllU (E : Env) (cs : List SV) (vs : List Value) : Prop := vs.length = cs.length ∧ ∀ (j : Nat) x u, cs[j]? = some x → vs[j]? = some u → x = .unk ∨ Is E x u

theorem All.nil {E : Env} : All E [] [] := ⟨rfl, by simp⟩
theorem All.cons {E : Env} {x : SV} {v : Value} {xs : List SV} {vs : List Value} (h : Is E x v) (h' : All E xs vs) : All E (x :: xs) (v :: vs) := by
  refine ⟨by simp [h'.1], fun j y u hy hu => ?_⟩
  cases j with
  | zero => simp at hy hu; subst hy hu; exact h
  | succ j => exact h'.2 j y u (by simpa using hy) (by simpa using hu)
theorem All.cons_inv {E : Env} {x : SV} {xs : List SV} {vs : List Value} (h : All E (x :: xs) vs) : ∃ v us, vs = v :: us ∧ Is E x v ∧ All E xs us := by
  cases vs with
  | nil => simp [All] at h
  | cons v us =>
    have h1 := h.1
    simp only [List.length_cons, Nat.add_right_cancel_iff] at h1
    exact ⟨v, us, rfl, h.2 0 x v rfl rfl, h1, fun j y u hy hu => h.2 (j + 1) y u (by simpa using hy) (by simpa using hu)⟩
theorem All.nil_inv {E : Env} {vs : List Value} (h : All E [] vs) : vs = [] := List.eq_nil_of_length_eq_zero h.1
theorem All.get {E : Env} {cs : List SV} {vs : List Value} (h : All E cs vs) {j : Nat} {x : SV} (hx : cs[j]? = some x) : ∃ u, vs[j]? = some u ∧ Is E x u := by
  have hj : j < vs.length := by rw [h.1]; exact (List.getElem?_eq_some_iff.1 hx).1
  exact ⟨vs[j], by simp [hj], h.2 j x _ hx (by simp [hj])⟩
theorem AllU.get {E : Env} {cs : List SV} {vs : List Value} (h : AllU E cs vs) {j : Nat} {x : SV} (hx : cs[j]? = some x) : ∃ u, vs[j]? = some u ∧ (x = .unk ∨ Is E x u) := by
  have hj : j < vs.length := by rw [h.1]; exact (List.getElem?_eq_some_iff.1 hx).1
  exact ⟨vs[j], by simp [hj], h.2 j x _ hx (by simp [hj])⟩
theorem All.u {E : Env} {cs : List SV} {vs : List Value} (h : All E cs vs) : AllU E cs vs := ⟨h.1, fun j x u hx hu => .inr (h.2 j x u hx hu)⟩
theorem AllU.all {E : Env} {cs : List SV} {vs : List Value} (h : AllU E cs vs) (h1 : cs.all SV.one = true) : All E cs vs := ⟨h.1, fun j x u hx hu => by
  rcases h.2 j x u hx hu with h2 | h2
  · have := (List.all_eq_true.1 h1) x (List.mem_of_getElem? hx)
    rw [h2] at this; simp [SV.one] at this
  · exact h2⟩
theorem all_get_of {p : SV → Bool} {cs : List SV} (h : cs.all p = true) {j : Nat} {x : SV} (hx : cs[j]? = some x) : p x = true := (List.all_eq_true.1 h) x (List.mem_of_getElem? hx)
theorem AllU.part {E : Env} {cs : List SV} {vs : List Value} (h : AllU E cs vs) (a n : Nat) : AllU E ((cs.drop a).take n) ((vs.drop a).take n) := by
  refine ⟨by simp [h.1], fun j x u hx hu => ?_⟩
  rw [List.getElem?_take] at hx hu
  split at hx
  · rename_i hj
    rw [if_pos hj] at hu
    rw [List.getElem?_drop] at hx hu
    exact h.2 _ x u hx hu
  · cases hx
theorem All.part {E : Env} {cs : List SV} {vs : List Value} (h : All E cs vs) (a n : Nat) : All E ((cs.drop a).take n) ((vs.drop a).take n) := by
  refine ⟨by simp [h.1], fun j x u hx hu => ?_⟩
  rw [List.getElem?_take] at hx hu
  split at hx
  · rename_i hj
    rw [if_pos hj] at hu
    rw [List.getElem?_drop] at hx hu
    exact h.2 _ x u hx hu
  · cases hx
theorem All.drop {E : Env} {cs : List SV} {vs : List Value} (h : All E cs vs) (a : Nat) : All E (cs.drop a) (vs.drop a) := by
  refine ⟨by simp [h.1], fun j x u hx hu => ?_⟩
  rw [List.getElem?_drop] at hx hu
  exact h.2 _ x u hx hu
theorem All.append {E : Env} {cs ds : List SV} {vs us : List Value} (h : All E cs vs) (h' : All E ds us) : All E (cs ++ ds) (vs ++ us) := by
  refine ⟨by simp [h.1, h'.1], fun j x u hx hu => ?_⟩
  rw [List.getElem?_append] at hx hu
  by_cases hj : j < cs.length
  · rw [if_pos hj] at hx; rw [if_pos (by rw [h.1]; exact hj)] at hu
    exact h.2 j x u hx hu
  · rw [if_neg hj] at hx; rw [if_neg (by rw [h.1]; exact hj), h.1] at hu
    exact h'.2 _ x u hx hu

/-! ### The labels in values -/
theorem mem_labsL : ∀ {cs : List SV} {c : SV} {d : Nat}, c ∈ cs → d ∈ c.labs → d ∈ labsL cs
  | [], c, d, h, _ => by cases h
  | x :: cs, c, d, h, hd => by
    rw [labsL]
    rcases List.mem_cons.1 h with rfl | h
    · exact List.mem_append_left _ hd
    · exact List.mem_append_right _ (mem_labsL h hd)
theorem of_mem_labsL : ∀ {cs : List SV} {d : Nat}, d ∈ labsL cs → ∃ c ∈ cs, d ∈ c.labs
  | [], d, h => by simp [labsL] at h
  | x :: cs, d, h => by
    rw [labsL] at h
    rcases List.mem_append.1 h with h | h
    · exact ⟨x, List.mem_cons_self .., h⟩
    · obtain ⟨c, hc, hd⟩ := of_mem_labsL h
      exact ⟨c, List.mem_cons_of_mem _ hc, hd⟩
theorem mem_labsLL : ∀ {l : List (List SV)} {cs : List SV} {d : Nat}, cs ∈ l → d ∈ labsL cs → d ∈ labsLL l
  | [], c, d, h, _ => by cases h
  | x :: l, c, d, h, hd => by
    rw [labsLL]
    rcases List.mem_cons.1 h with rfl | h
    · exact List.mem_append_left _ hd
    · exact List.mem_append_right _ (mem_labsLL h hd)
theorem of_mem_labsLL : ∀ {l : List (List SV)} {d : Nat}, d ∈ labsLL l → ∃ cs ∈ l, d ∈ labsL cs
  | [], d, h => by simp [labsLL] at h
  | x :: l, d, h => by
    rw [labsLL] at h
    rcases List.mem_append.1 h with h | h
    · exact ⟨x, List.mem_cons_self .., h⟩
    · obtain ⟨c, hc, hd⟩ := of_mem_labsLL h
      exact ⟨c, List.mem_cons_of_mem _ hc, hd⟩
theorem mem_labsR {r : Row SV} {c : SV} {d : Nat} (h : c ∈ r.cells) (hd : d ∈ c.labs) : d ∈ labsR r := by
  cases r with
  | ints k l => simp only [Row.cells, List.mem_map] at h; obtain ⟨x, _, rfl⟩ := h; simp [SV.labs] at hd
  | bools l => simp only [Row.cells, List.mem_map] at h; obtain ⟨x, _, rfl⟩ := h; simp [SV.labs] at hd
  | strs l => simp only [Row.cells, List.mem_map] at h; obtain ⟨x, _, rfl⟩ := h; simp [SV.labs] at hd
  | recs n l =>
    simp only [Row.cells, List.mem_flatten] at h
    obtain ⟨cs, h1, h2⟩ := h
    rw [labsR]
    exact mem_labsLL h1 (mem_labsL h2 hd)
theorem of_mem_labsR {r : Row SV} {d : Nat} (h : d ∈ labsR r) : ∃ c ∈ r.cells, d ∈ c.labs := by
  cases r with
  | recs n l =>
    rw [labsR] at h
    obtain ⟨cs, h1, h2⟩ := of_mem_labsLL h
    obtain ⟨c, h3, h4⟩ := of_mem_labsL h2
    exact ⟨c, by simp only [Row.cells, List.mem_flatten]; exact ⟨cs, h1, h3⟩, h4⟩
  | _ => simp [labsR] at h

/-! ### From one memory to the next -/
structure Env.le (E E' : Env) (D : Nat → Prop) : Prop where
  lab : ∀ d c, D d → E.L d = some c → ∃ c', E'.L d = some c' ∧ c ≤ c' ∧ E'.β d = E.β d ∧ (c = c' → E'.σ d = E.σ d)
  blk : ∀ b, b < E.w.heap.size → ¬ E.A b → E'.w.heap[b]? = E.w.heap[b]? ∧ ¬ E'.A b
  size : E.w.heap.size ≤ E'.w.heap.size

theorem Is.mono {E E' : Env} {D : Nat → Prop} (h : E.le E' D) {x : SV} {v : Value} (hi : Is E x v) : (∀ d ∈ x.labs, D d) → Is E' x v := by
  induction hi with
  | int k n => exact fun _ => .int k n
  | bool b => exact fun _ => .bool b
  | str s => exact fun _ => .str s
  | nil => exact fun _ => .nil
  | clo f cs vs hl _ ih => exact fun hd => .clo f cs vs hl fun j x u hx hu => ih j x u hx hu fun d hd' => hd d (by rw [SV.labs]; exact mem_labsL (List.mem_of_getElem? hx) hd')
  | sl d g cur a l c h1 h2 h3 =>
    intro hd
    obtain ⟨c', e1, e2, _, e4⟩ := h.lab d cur (hd d (by simp [SV.labs])) h1
    refine .sl d g c' a l c e1 (Nat.le_trans h2 e2) fun he => ?_
    have hc : cur = c' := by omega
    rw [e4 hc]
    exact h3 (by omega)
  | rw0 r ad c h0 h1 => exact fun _ => .rw0 r ad c h0 h1
  | rw r b o c vs h1 h2 h3 h4 h5 h6 _ ih =>
    intro hd
    obtain ⟨e1, e2⟩ := h.blk b h4 h3
    refine .rw r b o c vs h1 h2 e2 (Nat.lt_of_lt_of_le h4 h.size) h5 (fun j u hu => ?_) fun j x u hx hu => ih j x u hx hu fun d hd' => hd d (by rw [SV.labs]; exact mem_labsR (List.mem_of_getElem? hx) hd')
    exact (World.cell?_of_block (w := E.w) (a := ⟨b, o + j, none⟩) e1).trans (h6 j u hu)
  | nn r ad l c _ ih => exact fun hd => .nn r ad l c (ih fun d hd' => hd d (by simp only [SV.labs] at hd' ⊢; exact hd'))
  | ptr d o c h1 =>
    intro hd
    obtain ⟨c', e1, _, e3, _⟩ := h.lab d c (hd d (by simp [SV.labs])) h1
    rw [← e3]
    exact .ptr d o c' e1
  | elem d g n i o cur b q h1 h2 h3 =>
    intro hd
    obtain ⟨c', e1, e2, _, e4⟩ := h.lab d cur (hd d (by simp [SV.labs])) h1
    refine .elem d g n i o c' b q e1 (Nat.le_trans h2 e2) fun he => ?_
    have hc : cur = c' := by omega
    rw [e4 hc]
    exact h3 (by omega)
  | prt d g a l cur ad n c h1 h2 h3 =>
    intro hd
    obtain ⟨c', e1, e2, _, e4⟩ := h.lab d cur (hd d (by simp [SV.labs])) h1
    refine .prt d g a l c' ad n c e1 (Nat.le_trans h2 e2) fun he => ?_
    have hc : cur = c' := by omega
    rw [e4 hc]
    exact h3 (by omega)
  | gp g o => exact fun _ => .gp g o
  | fz cs b o vs h3 h4 h5 h6 _ ih =>
    intro hd
    obtain ⟨e1, e2⟩ := h.blk b h4 h3
    refine .fz cs b o vs e2 (Nat.lt_of_lt_of_le h4 h.size) h5 (fun j u hu => ?_) fun j x u hx hu => ih j x u hx hu fun d hd' => hd d (by rw [SV.labs]; exact mem_labsL (List.mem_of_getElem? hx) hd')
    exact (World.cell?_of_block (w := E.w) (a := ⟨b, o + j, none⟩) e1).trans (h6 j u hu)
  | agg cs vs hl _ ih => exact fun hd => .agg cs vs hl fun j x u hx hu => ih j x u hx hu fun d hd' => hd d (by rw [SV.labs]; exact mem_labsL (List.mem_of_getElem? hx) hd')
  | tup cs vs hl _ ih => exact fun hd => .tup cs vs hl fun j x u hx hu => ih j x u hx hu fun d hd' => hd d (by rw [SV.labs]; exact mem_labsL (List.mem_of_getElem? hx) hd')
theorem Is.live {E : Env} {x : SV} {v : Value} (hi : Is E x v) : ∀ d ∈ x.labs, ∃ c, E.L d = some c := by
  have key : ∀ {cs : List SV} {vs : List Value}, vs.length = cs.length → (∀ (j : Nat) x u, cs[j]? = some x → vs[j]? = some u → ∀ d ∈ x.labs, ∃ c, E.L d = some c) → ∀ c ∈ cs, ∀ d ∈ c.labs, ∃ c, E.L d = some c := by
    intro cs vs hl h c hc d hd
    obtain ⟨j, hj, rfl⟩ := List.getElem_of_mem hc
    exact h j _ (vs[j]'(by omega)) (by simp [hj]) (by simp [hl, hj]) d hd
  induction hi with
  | int k n => simp [SV.labs]
  | bool b => simp [SV.labs]
  | str s => simp [SV.labs]
  | nil => simp [SV.labs]
  | clo f cs vs hl _ ih => intro d hd; rw [SV.labs] at hd; obtain ⟨c, hc, hd⟩ := of_mem_labsL hd; exact key hl ih c hc d hd
  | sl d g cur a l c h1 h2 h3 => intro d' hd; simp [SV.labs] at hd; subst hd; exact ⟨_, h1⟩
  | rw0 r ad c h0 h1 =>
    intro d hd
    rw [SV.labs] at hd
    cases r with
    | recs n l =>
      simp only [Row.len] at h0
      have := List.eq_nil_of_length_eq_zero h0
      subst this
      simp [labsR, labsLL] at hd
    | _ => simp [labsR] at hd
  | rw r b o c vs h1 h2 h3 h4 h5 h6 _ ih => intro d hd; rw [SV.labs] at hd; obtain ⟨c, hc, hd⟩ := of_mem_labsR hd; exact key h5 ih c hc d hd
  | nn r ad l c _ ih => intro d hd; exact ih d (by simp only [SV.labs] at hd ⊢; exact hd)
  | ptr d o c h1 => intro d' hd; simp [SV.labs] at hd; subst hd; exact ⟨_, h1⟩
  | elem d g n i o cur b q h1 h2 h3 => intro d' hd; simp [SV.labs] at hd; subst hd; exact ⟨_, h1⟩
  | prt d g a l cur ad n c h1 h2 h3 => intro d' hd; simp [SV.labs] at hd; subst hd; exact ⟨_, h1⟩
  | gp g o => simp [SV.labs]
  | fz cs b o vs h3 h4 h5 h6 _ ih => intro d hd; rw [SV.labs] at hd; obtain ⟨c, hc, hd⟩ := of_mem_labsL hd; exact key h5 ih c hc d hd
  | agg cs vs hl _ ih => intro d hd; rw [SV.labs] at hd; obtain ⟨c, hc, hd⟩ := of_mem_labsL hd; exact key hl ih c hc d hd
  | tup cs vs hl _ ih => intro d hd; rw [SV.labs] at hd; obtain ⟨c, hc, hd⟩ := of_mem_labsL hd; exact key hl ih c hc d hd
/-- A slice's header with nothing behind it. -/
def Emp (v : Value) : Prop := ∃ ad c, v = .slice ad 0 c ∧ (ad = none → c = 0)
theorem Emp.is {E : Env} {v : Value} (h : Emp v) {r : Row SV} (h0 : r.len = 0) : Is E (.rw r) v := by
  obtain ⟨ad, c, rfl, h1⟩ := h
  exact .rw0 r ad c h0 h1
theorem emp_nil : Emp (.slice none 0 0) := ⟨none, 0, rfl, fun _ => rfl⟩
theorem Is.avoid {E : Env} {r : Row SV} {v : Value} {b q l c : Nat} (h : Is E (.rw r) v) (hv : v = .slice (some ⟨b, q, none⟩) l c) (hl : r.len ≠ 0) : ¬ E.A b := by
  cases h with
  | rw0 _ _ _ h0 _ => exact absurd h0 hl
  | rw _ b' q' c' vs h1 h2 h3 h4 h5 h6 h7 =>
    simp only [Value.slice.injEq, Option.some.injEq, Addr.mk.injEq, and_true] at hv
    obtain ⟨⟨rfl, rfl⟩, _⟩ := hv
    exact h3
theorem Is.ne_unk {E : Env} {x : SV} {v : Value} (h : Is E x v) : x ≠ .unk := by cases h <;> simp
theorem All.mono {E E' : Env} {D : Nat → Prop} (h : E.le E' D) {cs : List SV} {vs : List Value} (hi : All E cs vs) (hd : ∀ d ∈ labsL cs, D d) : All E' cs vs :=
  ⟨hi.1, fun j x u hx hu => (hi.2 j x u hx hu).mono h fun d hd' => hd d (mem_labsL (List.mem_of_getElem? hx) hd')⟩
theorem AllU.mono {E E' : Env} {D : Nat → Prop} (h : E.le E' D) {cs : List SV} {vs : List Value} (hi : AllU E cs vs) (hd : ∀ d ∈ labsL cs, D d) : AllU E' cs vs :=
  ⟨hi.1, fun j x u hx hu => (hi.2 j x u hx hu).imp id fun hi => hi.mono h fun d hd' => hd d (mem_labsL (List.mem_of_getElem? hx) hd')⟩
theorem All.monoR {E E' : Env} {D : Nat → Prop} (h : E.le E' D) {r : Row SV} {vs : List Value} (hi : All E r.cells vs) (hd : ∀ d ∈ labsR r, D d) : All E' r.cells vs :=
  ⟨hi.1, fun j x u hx hu => (hi.2 j x u hx hu).mono h fun d hd' => hd d (mem_labsR (List.mem_of_getElem? hx) hd')⟩
theorem All.live {E : Env} {cs : List SV} {vs : List Value} (hi : All E cs vs) : ∀ d ∈ labsL cs, ∃ c, E.L d = some c := fun d hd => by
  obtain ⟨c, hc, hd⟩ := of_mem_labsL hd
  obtain ⟨j, hj, rfl⟩ := List.getElem_of_mem hc
  obtain ⟨u, _, hu⟩ := hi.get (j := j) (x := cs[j]) (by simp [hj])
  exact hu.live d hd

/-! ### What a state says -/
/-- A world to begin with, the old blocks that may be written all the same, the slots that keep what they hold. -/
structure Wd extends World where
  X : Nat → Prop
  keep : Nat → Option Value
/-- A slot that may be written. -/
def Wd.okd (W : Wd) (n d : Nat) : Prop := d < n ∧ W.keep d = none
def Wd.mine (W : Wd) (b : Nat) : Prop := W.heap.size ≤ b ∨ W.X b
theorem Wd.not_mine {W : Wd} {k : Nat} (hk : k < W.heap.size) (hx : ¬ W.X k) : ¬ W.mine k := fun h => by
  rcases h with h | h
  · omega
  · exact hx h
structure Bel (W : Wd) (w : World) : Prop where
  os : w.os = W.os
  tape : w.tape = W.tape
  output : w.output = W.output
  size : W.heap.size ≤ w.heap.size
  block : ∀ k, k < W.heap.size → ¬ W.X k → w.heap[k]? = W.heap[k]?
theorem Bel.next {W : Wd} {w w' : World} (h : Bel W w) (o1 : w'.os = w.os) (o2 : w'.tape = w.tape) (o3 : w'.output = w.output) (o4 : w.heap.size ≤ w'.heap.size) (o5 : ∀ k, k < W.heap.size → ¬ W.X k → w'.heap[k]? = w.heap[k]?) : Bel W w' :=
  ⟨o1.trans h.os, o2.trans h.tape, o3.trans h.output, Nat.le_trans h.size o4, fun k h1 h2 => (o5 k h1 h2).trans (h.block k h1 h2)⟩
theorem Bel.below {W : Wd} {w w' : World} (h : Bel W w) (k : Below w.heap.size w w') : Bel W w' :=
  h.next k.os k.tape k.output k.size fun j h1 _ => k.block j (Nat.lt_of_lt_of_le h1 h.size)
/-- What lies in the package's variables. -/
def litV : SV → Value
  | .int k n => .int k n
  | .bool b => .bool b
  | .str s => .string ⟨s.toArray⟩
  | _ => undef
def flatG : SV → Bool
  | .int .. | .bool _ | .str _ => true
  | _ => false
def GlbW (w : World) : Prop := ∀ g cs, glbAt g = some cs → cs.all flatG = true ∧ g < w.heap.size ∧ ∀ j u, (cs.map litV)[j]? = some u → w.cell? ⟨g, j, none⟩ = some u
theorem GlbW.below {w w' : World} (h : GlbW w) (hb : ∀ k, k < w.heap.size → glbAt k ≠ none → w'.heap[k]? = w.heap[k]?) : GlbW w' := fun g cs hg => by
  obtain ⟨h1, h2, h3⟩ := h g cs hg
  have hbl := hb g h2 (by rw [hg]; simp)
  refine ⟨h1, ?_, fun j u hu => (World.cell?_of_block (w := w) (a := ⟨g, j, none⟩) hbl).trans (h3 j u hu)⟩
  have h4 : g < w'.heap.size ∨ ¬ g < w'.heap.size := Classical.em _
  rcases h4 with h4 | h4
  · exact h4
  · rw [Array.getElem?_eq_none (by omega), Array.getElem?_eq_getElem h2] at hbl
    cases hbl
/-- A slice of our own, in memory (type numbers from 1000000 on: the bytes of a string, whose block bears a mark behind its end). -/
def ownsM (w : World) (e : Nat) (size : Nat) (v : Value) (n : Nat) (xs : List Value) : Prop :=
  xs.length = n * size ∧
  ((v = .slice none 0 0 ∧ n = 0) ∨
   ∃ g cap cur fz, v = .slice (some ⟨g, 0, none⟩) n cap ∧ w.heap[g]? = some (.cells cur (e % 1000000) fz) ∧ ((e < 1000000 ∧ fz = (0, 0)) ∨ (1000000 ≤ e ∧ cur.size ≤ fz.1)) ∧ n ≤ cap ∧ cap ≤ maxLen ∧ cur.size = cap * size ∧ cur.toList.take (n * size) = xs)
theorem ownsM_of {w : World} {base e size : Nat} {v : Value} {n : Nat} {xs : List Value} (he : e < 1000000) (h : w.ownsRow base e size v n xs) : ownsM w e size v n xs := by
  refine ⟨h.1, ?_⟩
  rcases h.2 with h | ⟨g, cap, cur, h1, h2, h3, h4, h5, h6, h7⟩
  · exact .inl h
  · exact .inr ⟨g, cap, cur, (0, 0), h1, by rw [Nat.mod_eq_of_lt he]; exact h3, .inl ⟨he, rfl⟩, h4, h5, h6, h7⟩
theorem ownsM.row {w : World} {e size : Nat} {v : Value} {n : Nat} {xs : List Value} (h : ownsM w e size v n xs) (he : e < 1000000) {base : Nat} (hb : ∀ b, v.ownBlock = some b → base ≤ b) : w.ownsRow base e size v n xs := by
  refine ⟨h.1, ?_⟩
  rcases h.2 with h | ⟨g, cap, cur, fz, h1, h3, hz, h4, h5, h6, h7⟩
  · exact .inl h
  · rw [Nat.mod_eq_of_lt he] at h3
    rcases hz with ⟨_, rfl⟩ | ⟨hz, _⟩
    · exact .inr ⟨g, cap, cur, h1, hb g (by rw [h1]; rfl), h3, h4, h5, h6, h7⟩
    · omega
theorem ownsM.lt {w : World} {e size : Nat} {v : Value} {n : Nat} {xs : List Value} (h : ownsM w e size v n xs) (b : Nat) (hb : v.ownBlock = some b) : b < w.heap.size := by
  rcases h.2 with ⟨rfl, _⟩ | ⟨g, cap, cur, fz, rfl, h3, _⟩
  · simp [Value.ownBlock] at hb
  · simp only [Value.ownBlock, Option.some.injEq] at hb
    subst hb
    exact (Array.getElem?_eq_some_iff.1 h3).1
theorem ownsM.cells {w : World} {e size : Nat} {v : Value} {n : Nat} {xs : List Value} (h : ownsM w e size v n xs) {g : Nat} (hg : v.ownBlock = some g) (j : Nat) (u : Value) (hu : xs[j]? = some u) : w.cell? ⟨g, j, none⟩ = some u := by
  rcases h.2 with ⟨rfl, _⟩ | ⟨g', cap, cur, fz, rfl, h3, _, h4, _, h6, h7⟩
  · simp [Value.ownBlock] at hg
  · simp only [Value.ownBlock, Option.some.injEq] at hg
    subst hg
    rw [← h7, List.getElem?_take] at hu
    split at hu
    · simp only [World.cell?, h3]
      simpa using hu
    · cases hu
def CelOk (W : Wd) (E : Env) (d : Nat) : Cel → Prop
  | .fresh => True
  | .var T cs => W.mine (E.β d) ∧ ∃ vs : List Value, E.w.heap[E.β d]? = some (.cells vs.toArray T (0, 0)) ∧ AllU E cs vs
  | .row _ e r => r.Wf ∧ (∀ b, (E.σ d).val.ownBlock = some b → W.mine b) ∧ ∃ vs : List Value, ownsM E.w e r.size (E.σ d).val r.len vs ∧ All E r.cells vs
  | .frow _ r => Is E (.rw r) (E.σ d).val
def wblk (β : Nat → Nat) (σ : Nat → Sl) (d : Nat) : Cel → Option Nat
  | .var _ _ => some (β d)
  | .row _ _ _ => (σ d).val.ownBlock
  | _ => none
def env (A0 : Nat → Prop) (s : St) (w : World) (β : Nat → Nat) (σ : Nat → Sl) : Env :=
  ⟨w, fun b => A0 b ∨ ∃ d, wblk β σ d (s.mem d) = some b, fun d => (s.mem d).ver, β, σ⟩
structure SimW (n : Nat) (W : Wd) (A0 : Nat → Prop) (s : St) (a : Act) (w : World) (β : Nat → Nat) (σ : Nat → Sl) : Prop where
  size : a.tmps.size = n ∧ ∀ t v, W.keep t = some v → a.tmps[t]? = some v
  defers : a.defers = []
  bel : Bel W w
  fr : ∀ t, s.fr t ≠ .unk → ∃ v, a.tmps[t]? = some v ∧ Is (env A0 s w β σ) (s.fr t) v
  mem : ∀ d, CelOk W (env A0 s w β σ) d (s.mem d)
  sep : ∀ d d' b, d ≠ d' → wblk β σ d (s.mem d) = some b → wblk β σ d' (s.mem d') ≠ some b
  low : (∀ b, A0 b → b < W.heap.size ∧ ¬ W.X b) ∧ GlbW W.toWorld ∧ ∀ g, glbAt g ≠ none → ¬ W.X g
def Sim (n : Nat) (W : Wd) (A0 : Nat → Prop) (s : St) (a : Act) (w : World) : Prop := ∃ β σ, SimW n W A0 s a w β σ

section
variable {n : Nat} {W : Wd} {A0 : Nat → Prop} {s : St} {a : Act} {w : World} {β : Nat → Nat} {σ : Nat → Sl}

theorem Cel.ver_fresh {c : Cel} : c.ver = none ↔ c.isFresh = true := by cases c <;> simp [Cel.ver, Cel.isFresh]
theorem Cel.ver_some {c : Cel} {k : Nat} (h : c.ver = some k) : c.isFresh = false := by cases c <;> simp_all [Cel.ver, Cel.isFresh]

theorem eval_of (hs : SimW n W A0 s a w β σ) {x : Operand} {y : SO} (h : cO x = some y) (hu : y.ev s ≠ .unk) : Is (env A0 s w β σ) (y.ev s) (a.eval x) := by
  cases x with
  | tmp t =>
    simp [cO] at h; subst h
    obtain ⟨v, h1, h2⟩ := hs.fr t hu
    simpa [Act.eval, SO.ev, h1] using h2
  | const v =>
    simp only [cO, Option.some.injEq] at h
    subst h
    cases hx : svOf v with
    | none => simp [SO.ev, hx] at hu
    | some x =>
    simp only [hx, Option.getD_some]
    have h0 : ∀ {v : Value} {x : SV}, svOf0 v = some x → Is (env A0 s w β σ) x v := fun {v x} h => by
      unfold svOf0 at h
      split at h <;> simp at h <;> subst h
      · exact .int _ _
      · exact .bool _
      · exact .str _
      · exact .nil
    have hL : ∀ {vs : List Value} {xs : List SV}, vs.mapM svOf0 = some xs → All (env A0 s w β σ) xs vs := fun {vs} => by
      induction vs with
      | nil => intro xs h; simp at h; subst h; exact All.nil
      | cons v vs ih =>
        intro xs h
        simp only [List.mapM_cons, Option.bind_eq_bind, Option.pure_def, Option.bind_eq_some_iff] at h
        obtain ⟨x, hx, ys, hys, he⟩ := h
        simp only [Option.some.injEq] at he
        subst he
        exact All.cons (h0 hx) (ih hys)
    show Is _ x v
    unfold svOf at hx
    split at hx
    · rename_i cs
      simp only [Option.map_eq_some_iff] at hx
      obtain ⟨xs, hxs, rfl⟩ := hx
      have := hL hxs
      have h2 := Is.agg xs cs.toList this.1 this.2
      simpa using h2
    · exact h0 hx
  | global g => simp [cO] at h; subst h; exact .gp g 0
  | func f =>
    simp [cO] at h; subst h
    exact .clo f [] [] rfl (by simp)
theorem SimW.lab (hs : SimW n W A0 s a w β σ) : ∀ t, ∀ d ∈ (s.fr t).labs, (s.mem d).isFresh = false := fun t d hd => by
  by_cases h : s.fr t = .unk
  · rw [h] at hd; simp [SV.labs] at hd
  · obtain ⟨v, _, hi⟩ := hs.fr t h
    obtain ⟨c, hc⟩ := hi.live d hd
    exact Cel.ver_some hc

/-- A value into a slot. -/
theorem SimW.put (hs : SimW n W A0 s a w β σ) (dst : Option Nat) (hd : ∀ d, dst = some d → W.okd n d) {v : SV} {u : Value} (hv : v = .unk ∨ Is (env A0 s w β σ) v u) : SimW n W A0 (s.put dst v) (a.put dst u) w β σ := by
  cases dst with
  | none => exact hs
  | some d =>
    refine ⟨⟨by simp [Act.put, hs.size.1], fun t v hk => by
      have hne : t ≠ d := fun he => by rw [he, (hd d rfl).2] at hk; cases hk
      simp [Act.put, Ne.symm hne, hs.size.2 t v hk]⟩, by simp [Act.put, hs.defers], hs.bel, fun t ht => ?_, hs.mem, hs.sep, hs.low⟩
    simp only [St.put] at ht ⊢
    by_cases h : t = d
    · subst h
      simp only [if_true] at ht ⊢
      have hlt : t < a.tmps.size := by rw [hs.size.1]; exact (hd t rfl).1
      exact ⟨u, by simp [Act.put, hlt], hv.resolve_left ht⟩
    · rw [if_neg h] at ht ⊢
      obtain ⟨v', h1, h2⟩ := hs.fr t ht
      exact ⟨v', by simp [Act.put, Ne.symm h, h1], h2⟩

theorem ownsM_same {w w' : World} {e : TypeId} {sz : Nat} {v : Value} {n : Nat} {xs : List Value} (h : ownsM w e sz v n xs) (hb : ∀ b, v.ownBlock = some b → w'.heap[b]? = w.heap[b]?) : ownsM w' e sz v n xs := by
  refine ⟨h.1, ?_⟩
  rcases h.2 with hn | ⟨g, cap, cur, fz, hv, h2, r⟩
  · exact .inl hn
  · exact .inr ⟨g, cap, cur, fz, hv, (hb g (by simp [hv, Value.ownBlock])).trans h2, r⟩
theorem CelOk.lt {E : Env} {d : Nat} {c : Cel} (h : CelOk W E d c) {b : Nat} (hb : wblk E.β E.σ d c = some b) : W.mine b ∧ b < E.w.heap.size := by
  cases c with
  | fresh => simp [wblk] at hb
  | var T cs =>
    simp [wblk] at hb; subst hb
    obtain ⟨h1, vs, h2, _⟩ := h
    exact ⟨h1, (Array.getElem?_eq_some_iff.1 h2).1⟩
  | row g e r =>
    simp only [wblk] at hb
    obtain ⟨_, hm, vs, h2, _⟩ := h
    exact ⟨hm b hb, h2.lt b hb⟩
  | frow g r => simp [wblk] at hb
/-- What lies behind a label stays as it is where its block does. -/
theorem CelOk.same {E E' : Env} {D : Nat → Prop} {d : Nat} {c : Cel} (h : CelOk W E d c) (hle : E.le E' D) (hD : ∀ d c, E.L d = some c → D d) (hb : ∀ b, wblk E.β E.σ d c = some b → E'.w.heap[b]? = E.w.heap[b]?)
    (hd : c.isFresh = false → E'.β d = E.β d ∧ E'.σ d = E.σ d) : CelOk W E' d c := by
  cases c with
  | fresh => trivial
  | var T cs =>
    obtain ⟨e1, e2⟩ := hd rfl
    obtain ⟨h1, vs, h2, h3⟩ := h
    refine ⟨by rw [e1]; exact h1, vs, by rw [e1]; exact (hb _ rfl).trans h2, ?_⟩
    exact ⟨h3.1, fun j x u hx hu => (h3.2 j x u hx hu).imp id fun hi => hi.mono hle fun d' hd' => by obtain ⟨c, hc⟩ := hi.live d' hd'; exact hD d' c hc⟩
  | row g e r =>
    obtain ⟨e1, e2⟩ := hd rfl
    obtain ⟨h0, hm, vs, h2, h3⟩ := h
    refine ⟨h0, by rw [e2]; exact hm, vs, by rw [e2]; exact ownsM_same h2 hb, ?_⟩
    exact ⟨h3.1, fun j x u hx hu => (h3.2 j x u hx hu).mono hle fun d' hd' => by obtain ⟨c, hc⟩ := (h3.2 j x u hx hu).live d' hd'; exact hD d' c hc⟩
  | frow g r =>
    obtain ⟨e1, e2⟩ := hd rfl
    have h' : Is E (.rw r) (E.σ d).val := h
    show Is E' (.rw r) (E'.σ d).val
    rw [e2]
    exact h'.mono hle fun d' hd' => by obtain ⟨c, hc⟩ := h'.live d' hd'; exact hD d' c hc

theorem SimW.not_avoid (hs : SimW n W A0 s a w β σ) {b : Nat} (h : (env A0 s w β σ).A b) : b < w.heap.size := by
  rcases h with h | ⟨d, hd⟩
  · exact Nat.lt_of_lt_of_le (hs.low.1 b h).1 hs.bel.size
  · exact ((hs.mem d).lt hd).2

theorem SimW.glb (hs : SimW n W A0 s a w β σ) : GlbW w := hs.low.2.1.below fun k h1 h2 => hs.bel.block k h1 (hs.low.2.2 k h2)
/-- A block that we may write is none of our caller's. -/
theorem SimW.apart (hs : SimW n W A0 s a w β σ) {b : Nat} (h : W.mine b) (hA : A0 b) : False := by
  obtain ⟨h1, h2⟩ := hs.low.1 b hA
  rcases h with h | h
  · omega
  · exact h2 h
/-- Behind a call: new blocks may lie there; of the old ones nothing has turned. -/
theorem SimW.env_below {w' : World} (hb : Below w.heap.size w w') : (env A0 s w β σ).le (env A0 s w' β σ) fun _ => True :=
  ⟨fun d c _ h => ⟨c, h, Nat.le_refl _, rfl, fun _ => rfl⟩, fun b h1 h2 => ⟨hb.block b h1, h2⟩, hb.size⟩
theorem SimW.below {w' : World} (hs : SimW n W A0 s a w β σ) (hb : Below w.heap.size w w') : SimW n W A0 s a w' β σ := by
  have hle := SimW.env_below (A0 := A0) (s := s) (β := β) (σ := σ) hb
  refine ⟨hs.size, hs.defers, hs.bel.below hb, fun t ht => ?_, fun d => ?_, hs.sep, hs.low⟩
  · obtain ⟨v, h1, h2⟩ := hs.fr t ht
    exact ⟨v, h1, h2.mono hle fun _ _ => trivial⟩
  · exact (hs.mem d).same hle (fun _ _ _ => trivial) (fun b hb' => hb.block b ((hs.mem d).lt hb').2) (fun _ => ⟨rfl, rfl⟩)

def upd {α : Type} (f : Nat → α) (d : Nat) (x : α) : Nat → α := fun t => if t = d then x else f t
theorem upd_same {α : Type} (f : Nat → α) (d : Nat) (x : α) : upd f d x d = x := by simp [upd]
theorem upd_other {α : Type} (f : Nat → α) {d t : Nat} (x : α) (h : t ≠ d) : upd f d x t = f t := by simp [upd, h]
theorem wblk_congr {β β' : Nat → Nat} {σ σ' : Nat → Sl} {d : Nat} {c : Cel} (h1 : β' d = β d) (h2 : σ' d = σ d) : wblk β' σ' d c = wblk β σ d c := by
  cases c <;> simp [wblk, h1, h2]

/-- **One label is turned**: what lay behind d, and no other block, has changed. -/
theorem SimW.one (hs : SimW n W A0 s a w β σ) (d : Nat) (c1 : Cel) (w' : World) (bd : Nat) (sd : Sl) (hbel : Bel W w')
    (hver : ∀ c, (s.mem d).ver = some c → ∃ c', c1.ver = some c' ∧ c ≤ c' ∧ bd = β d ∧ (c = c' → sd = σ d))
    (hblk : ∀ b, b < w.heap.size → wblk β σ d (s.mem d) ≠ some b → w'.heap[b]? = w.heap[b]?) (hsize : w.heap.size ≤ w'.heap.size)
    (hnew : ∀ b, wblk (upd β d bd) (upd σ d sd) d c1 = some b → wblk β σ d (s.mem d) = some b ∨ w.heap.size ≤ b)
    (hcel : (env A0 s w β σ).le (env A0 (s.setm d c1) w' (upd β d bd) (upd σ d sd)) (fun _ => True) → CelOk W (env A0 (s.setm d c1) w' (upd β d bd) (upd σ d sd)) d c1) :
    (env A0 s w β σ).le (env A0 (s.setm d c1) w' (upd β d bd) (upd σ d sd)) (fun _ => True) ∧ SimW n W A0 (s.setm d c1) a w' (upd β d bd) (upd σ d sd) := by
  have hat : ∀ t, t ≠ d → (s.setm d c1).mem t = s.mem t := fun t ht => by simp [St.setm, setM, ht]
  have hself : (s.setm d c1).mem d = c1 := by simp [St.setm, setM]
  have hw : ∀ t, t ≠ d → wblk (upd β d bd) (upd σ d sd) t (s.mem t) = wblk β σ t (s.mem t) := fun t ht => wblk_congr (upd_other _ _ ht) (upd_other _ _ ht)
  have hle : (env A0 s w β σ).le (env A0 (s.setm d c1) w' (upd β d bd) (upd σ d sd)) (fun _ => True) := by
    refine ⟨fun t c _ h => ?_, fun b h1 h2 => ⟨hblk b h1 fun hh => h2 (.inr ⟨d, hh⟩), ?_⟩, hsize⟩
    · by_cases ht : t = d
      · subst ht
        obtain ⟨c', e1, e2, e3, e4⟩ := hver c h
        exact ⟨c', by simp only [env, hself]; exact e1, e2, by simp only [env, upd_same]; exact e3, fun hc => by simp only [env, upd_same]; exact e4 hc⟩
      · exact ⟨c, by simp only [env, hat t ht]; exact h, Nat.le_refl _, upd_other _ _ ht, fun _ => upd_other _ _ ht⟩
    · rintro (hA | ⟨t, ht⟩)
      · exact h2 (.inl hA)
      · by_cases htd : t = d
        · subst htd
          rw [hself] at ht
          rcases hnew b ht with hh | hh
          · exact h2 (.inr ⟨t, hh⟩)
          · have : b < w.heap.size := h1
            omega
        · rw [hat t htd, hw t htd] at ht
          exact h2 (.inr ⟨t, ht⟩)
  refine ⟨hle, hs.size, hs.defers, hbel, fun t ht => ?_, fun t => ?_, fun x y b hxy h1 h2 => ?_, hs.low⟩
  · obtain ⟨v, h1, h2⟩ := hs.fr t ht
    exact ⟨v, h1, h2.mono hle fun _ _ => trivial⟩
  · by_cases ht : t = d
    · subst ht
      rw [hself]
      exact hcel hle
    · rw [hat t ht]
      exact (hs.mem t).same hle (fun _ _ _ => trivial) (fun b hb => hblk b ((hs.mem t).lt hb).2 fun hh => hs.sep d t b (Ne.symm ht) hh hb) (fun _ => ⟨upd_other _ _ ht, upd_other _ _ ht⟩)
  · by_cases hx : x = d
    · subst hx
      have hy := Ne.symm hxy
      rw [hself] at h1
      rw [hat y hy, hw y hy] at h2
      rcases hnew b h1 with hh | hh
      · exact hs.sep x y b hxy hh h2
      · have := ((hs.mem y).lt h2).2
        have : b < w.heap.size := this
        omega
    · rw [hat x hx, hw x hx] at h1
      by_cases hy : y = d
      · subst hy
        rw [hself] at h2
        rcases hnew b h2 with hh | hh
        · exact hs.sep x y b hxy h1 hh
        · have := ((hs.mem x).lt h1).2
          have : b < w.heap.size := this
          omega
      · rw [hat y hy, hw y hy] at h2
        exact hs.sep x y b hxy h1 h2
end
end Go.Proofs.Ytgklfolmlcfjgaa.Y
