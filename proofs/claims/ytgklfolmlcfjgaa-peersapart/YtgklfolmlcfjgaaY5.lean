/- The second walk is sound: what slices hold: rows and their cells. -/
import Derived.Test.YtgklfolmlcfjgaaY4
namespace Go.Proofs.Ytgklfolmlcfjgaa.Y
open Go.RowKit
set_option linter.unusedSimpArgs false
set_option linter.unusedVariables false

theorem flat_len {n : Nat} : ∀ {l : List (List SV)}, (∀ c ∈ l, c.length = n) → l.flatten.length = l.length * n
  | [], _ => by simp
  | c :: l, h => by
    have := flat_len (l := l) fun c hc => h c (List.mem_cons_of_mem _ hc)
    simp [this, h c (List.mem_cons_self ..), Nat.succ_mul, Nat.add_comm]
theorem flat_drop {n : Nat} : ∀ {l : List (List SV)}, (∀ c ∈ l, c.length = n) → ∀ i, l.flatten.drop (i * n) = (l.drop i).flatten
  | [], _, i => by simp
  | c :: l, h, 0 => by simp
  | c :: l, h, i + 1 => by
    have hc := h c (List.mem_cons_self ..)
    rw [List.flatten_cons, Nat.succ_mul, Nat.add_comm, ← hc, ← List.drop_drop, List.drop_left, hc]
    simpa using flat_drop (l := l) (fun c hc => h c (List.mem_cons_of_mem _ hc)) i
theorem flat_take {n : Nat} : ∀ {l : List (List SV)}, (∀ c ∈ l, c.length = n) → ∀ i, l.flatten.take (i * n) = (l.take i).flatten
  | [], _, i => by simp
  | c :: l, h, 0 => by simp
  | c :: l, h, i + 1 => by
    have hc := h c (List.mem_cons_self ..)
    rw [List.flatten_cons, Nat.succ_mul, Nat.add_comm, ← hc, List.take_length_add_append, hc]
    simpa using flat_take (l := l) (fun c hc => h c (List.mem_cons_of_mem _ hc)) i
theorem getD_len {n : Nat} {l : List (List SV)} (h : ∀ c ∈ l, c.length = n) {i : Nat} (hi : i < l.length) : (l.getD i []).length = n := by
  rw [List.getD_eq_getElem?_getD, List.getElem?_eq_getElem hi]
  exact h _ (List.getElem_mem hi)

theorem Row.Wf.len {n : Nat} {l : List (List SV)} (h : Row.Wf (.recs n l)) : ∀ c ∈ l, c.length = n := fun c hc => (h c hc).1
theorem Row.cells_len {r : Row SV} (h : r.Wf) : r.cells.length = r.len * r.size := by
  cases r with
  | recs n l => exact flat_len h.len
  | _ => simp [Row.cells, Row.len, Row.size]
theorem map_get {α : Type} (f : α → SV) (l : List α) (d : α) {i : Nat} (hi : i < l.length) : [f (l.getD i d)] = ((l.map f).drop (i * 1)).take 1 := by
  rw [Nat.mul_one, List.drop_eq_getElem_cons (by simpa using hi)]
  simp [hi]
theorem Row.get_eq {r : Row SV} (h : r.Wf) {i : Nat} (hi : i < r.len) : r.get i = (r.cells.drop (i * r.size)).take r.size ∧ (r.get i).length = r.size := by
  cases r with
  | ints k l => exact ⟨map_get _ l 0 hi, rfl⟩
  | bools l => exact ⟨map_get _ l false hi, rfl⟩
  | strs l => exact ⟨map_get _ l [] hi, rfl⟩
  | recs n l =>
    have hi' : i < l.length := hi
    refine ⟨?_, getD_len h.len hi'⟩
    simp only [Row.get, Row.cells, Row.size]
    rw [flat_drop h.len, List.drop_eq_getElem_cons hi', List.flatten_cons]
    have hl : l[i].length = n := h.len _ (List.getElem_mem hi')
    have e : (l[i] ++ (l.drop (i + 1)).flatten).take n = l[i] := by
      conv => lhs; rw [← hl]
      simp
    rw [e, List.getD_eq_getElem?_getD, List.getElem?_eq_getElem hi']
    rfl
theorem Row.sub_spec {r : Row SV} (h : r.Wf) {a b : Nat} (hab : a ≤ b) (hb : b ≤ r.len) : (r.sub a b).Wf ∧ (r.sub a b).len = b - a ∧ (r.sub a b).size = r.size ∧ (r.sub a b).cells = (r.cells.drop (a * r.size)).take ((b - a) * r.size) := by
  have hm : ∀ {α : Type} (f : α → SV) (l : List α), (((l.take b).drop a).map f) = ((l.map f).drop (a * 1)).take ((b - a) * 1) := fun f l => by
    rw [Nat.mul_one, Nat.mul_one, List.map_drop, List.map_take, List.drop_take]
  cases r with
  | ints k l => exact ⟨trivial, by simp [Row.sub, Row.len] at hb ⊢; omega, rfl, hm _ l⟩
  | bools l => exact ⟨trivial, by simp [Row.sub, Row.len] at hb ⊢; omega, rfl, hm _ l⟩
  | strs l => exact ⟨trivial, by simp [Row.sub, Row.len] at hb ⊢; omega, rfl, hm _ l⟩
  | recs n l =>
    refine ⟨fun c hc => h c (List.mem_of_mem_take (List.mem_of_mem_drop hc)), by simp [Row.sub, Row.len] at hb ⊢; omega, rfl, ?_⟩
    simp only [Row.sub, Row.cells, Row.size]
    have h' : ∀ c ∈ l.drop a, c.length = n := fun c hc => h.len c (List.mem_of_mem_drop hc)
    rw [flat_drop h.len, flat_take h', List.drop_take]
theorem Row.cat_spec {r r' r'' : Row SV} (h : r.Wf) (h' : r'.Wf) (hc : r.cat r' = some r'') : r''.Wf ∧ r''.len = r.len + r'.len ∧ r''.size = r.size ∧ r'.size = r.size ∧ r''.cells = r.cells ++ r'.cells := by
  cases r <;> cases r' <;> simp only [Row.cat] at hc <;> try (cases hc; done)
  case ints.ints k l k' l' =>
    split at hc
    · rename_i hk
      simp only [Option.some.injEq] at hc; subst hc hk
      exact ⟨trivial, by simp [Row.len], rfl, rfl, by simp [Row.cells]⟩
    · cases hc
  case bools.bools l l' => simp only [Option.some.injEq] at hc; subst hc; exact ⟨trivial, by simp [Row.len], rfl, rfl, by simp [Row.cells]⟩
  case strs.strs l l' => simp only [Option.some.injEq] at hc; subst hc; exact ⟨trivial, by simp [Row.len], rfl, rfl, by simp [Row.cells]⟩
  case recs.recs n l n' l' =>
    split at hc
    · rename_i hk
      simp only [Option.some.injEq] at hc; subst hc hk
      refine ⟨fun c hc => ?_, by simp [Row.len], rfl, rfl, by simp [Row.cells]⟩
      rcases List.mem_append.1 hc with hc | hc
      · exact h c hc
      · exact h' c hc
    · cases hc
theorem set_map {α : Type} (f : α → SV) (l : List α) (x : α) (i : Nat) : (l.set i x).map f = setAt (l.map f) (i * 1 + 0) [f x] := by
  simp [setAt, List.map_set]
theorem setAt_append : ∀ (vs cs ds : List SV) (o : Nat), setAt (cs ++ ds) (cs.length + o) vs = cs ++ setAt ds o vs
  | [], cs, ds, o => rfl
  | v :: vs, cs, ds, o => by
    rw [setAt, setAt, List.set_append_right _ _ (by omega)]
    rw [show cs.length + o - cs.length = o by omega, show cs.length + o + 1 = cs.length + (o + 1) by omega, setAt_append vs cs _ (o + 1)]
theorem setAt_left : ∀ (vs cs ds : List SV) (o : Nat), o + vs.length ≤ cs.length → setAt (cs ++ ds) o vs = setAt cs o vs ++ ds
  | [], cs, ds, o, _ => rfl
  | v :: vs, cs, ds, o, h => by
    simp only [List.length_cons] at h
    rw [setAt, setAt, List.set_append_left _ _ (by omega), setAt_left vs _ ds (o + 1) (by simp; omega)]
theorem flat_set {n : Nat} : ∀ {l : List (List SV)}, (∀ c ∈ l, c.length = n) → ∀ (i o : Nat) (vs : List SV), i < l.length → o + vs.length ≤ n → (l.set i (setAt (l.getD i []) o vs)).flatten = setAt l.flatten (i * n + o) vs
  | [], _, i, o, vs, hi, _ => by simp at hi
  | c :: l, h, 0, o, vs, _, ho => by
    have hc := h c (List.mem_cons_self ..)
    simp only [List.set_cons_zero, List.flatten_cons, Nat.zero_mul, Nat.zero_add]
    rw [setAt_left vs c _ o (by omega)]
    rfl
  | c :: l, h, i + 1, o, vs, hi, ho => by
    have hc := h c (List.mem_cons_self ..)
    have ih := flat_set (l := l) (fun c hc => h c (List.mem_cons_of_mem _ hc)) i o vs (by simpa using hi) ho
    simp only [List.set_cons_succ, List.flatten_cons]
    rw [show (i + 1) * n + o = c.length + (i * n + o) by rw [hc, Nat.succ_mul]; omega, setAt_append, ← ih]
    rfl
theorem setAt_one : ∀ (vs cs : List SV) (o : Nat), vs.all SV.one = true → cs.all SV.one = true → (setAt cs o vs).all SV.one = true
  | [], cs, o, _, h => h
  | v :: vs, cs, o, h1, h2 => by
    simp only [List.all_cons, Bool.and_eq_true] at h1
    refine setAt_one vs _ (o + 1) h1.2 ?_
    rw [List.all_eq_true] at h2 ⊢
    intro x hx
    rcases List.mem_or_eq_of_mem_set hx with hx | rfl
    · exact h2 x hx
    · exact h1.1
theorem fillP_one : ∀ (ps : List (Nat × Nat)) (vs z cs : List SV), z.all SV.one = true → fillP z ps vs = some cs → cs.all SV.one = true
  | [], [], z, cs, hz, h => by simp [fillP] at h; subst h; exact hz
  | [], v :: vs, z, cs, _, h => by simp [fillP] at h
  | _ :: _, [], z, cs, _, h => by simp [fillP] at h
  | (o, k) :: ps, v :: vs, z, cs, hz, h => by
    simp only [fillP] at h
    split at h
    · rename_i hc; exact fillP_one ps vs _ cs (setAt_one _ _ _ hc.2.2 hz) h
    · cases h
theorem Row.cells_one {r : Row SV} (h : r.Wf) : r.cells.all SV.one = true := by
  cases r with
  | recs n l =>
    simp only [Row.cells, List.all_eq_true, List.mem_flatten]
    rintro x ⟨c, hc, hx⟩
    exact (List.all_eq_true.1 (h c hc).2) x hx
  | _ => simp [Row.cells, SV.one]
theorem Row.put_spec {r r' : Row SV} (h : r.Wf) {i o : Nat} {cs : List SV} (h1 : cs.all SV.one = true) (hi : i < r.len) (hp : r.put i o cs = some r') : r'.Wf ∧ r'.len = r.len ∧ r'.size = r.size ∧ o + cs.length ≤ r.size ∧ r'.cells = setAt r.cells (i * r.size + o) cs := by
  unfold Row.put at hp
  split at hp
  · split at hp
    · rename_i hk
      obtain ⟨rfl, rfl⟩ := hk
      simp only [Option.some.injEq] at hp; subst hp
      exact ⟨trivial, by simp [Row.len], rfl, by simp [Row.size], set_map _ _ _ _⟩
    · cases hp
  · split at hp
    · rename_i hk
      subst hk
      simp only [Option.some.injEq] at hp; subst hp
      exact ⟨trivial, by simp [Row.len], rfl, by simp [Row.size], set_map _ _ _ _⟩
    · cases hp
  · split at hp
    · rename_i hk
      subst hk
      simp only [Option.some.injEq] at hp; subst hp
      exact ⟨trivial, by simp [Row.len], rfl, by simp [Row.size], set_map _ _ _ _⟩
    · cases hp
  · rename_i n l
    split at hp
    · rename_i hle
      simp only [Option.some.injEq] at hp; subst hp
      refine ⟨fun c hc => ?_, by simp [Row.len], rfl, hle, flat_set h.len i o cs hi hle⟩
      rcases List.mem_or_eq_of_mem_set hc with hc | rfl
      · exact h c hc
      · refine ⟨by rw [setAt_len]; exact getD_len h.len hi, setAt_one _ _ _ h1 ?_⟩
        have hi' : i < l.length := hi
        rw [List.getD_eq_getElem?_getD, List.getElem?_eq_getElem hi']
        exact (h _ (List.getElem_mem hi')).2
    · cases hp
  · cases hp
theorem Row.rep_spec {r r' : Row SV} {n : Nat} {z : List SV} (hz : z.all SV.one = true) (hp : r.rep n z = some r') : r'.Wf ∧ r'.len = n ∧ r'.size = r.size ∧ z.length = r.size ∧ r'.cells = (List.replicate n z).flatten := by
  unfold Row.rep at hp
  have hm : ∀ {α : Type} (f : α → SV) (x : α) (n : Nat), (List.replicate n x).map f = (List.replicate n [f x]).flatten := fun f x n => by
    induction n with
    | zero => rfl
    | succ n ih => simp [List.replicate_succ]
  split at hp
  · split at hp
    · rename_i hk
      subst hk
      simp only [Option.some.injEq] at hp; subst hp
      exact ⟨trivial, by simp [Row.len], rfl, rfl, hm _ _ _⟩
    · cases hp
  · simp only [Option.some.injEq] at hp; subst hp
    exact ⟨trivial, by simp [Row.len], rfl, rfl, hm _ _ _⟩
  · simp only [Option.some.injEq] at hp; subst hp
    exact ⟨trivial, by simp [Row.len], rfl, rfl, hm _ _ _⟩
  · split at hp
    · rename_i hk
      simp only [Option.some.injEq] at hp; subst hp
      exact ⟨fun c hc => by rw [List.eq_of_mem_replicate hc]; exact ⟨hk, hz⟩, by simp [Row.len], rfl, hk, rfl⟩
    · cases hp
  · cases hp
theorem intsOf_spec {k : IntKind} : ∀ {cs : List SV} {l : List Int}, intsOf k cs = some l → l.map (SV.int k) = cs
  | [], l, h => by simp [intsOf] at h; subst h; rfl
  | .int k' n :: cs, l, h => by
    simp only [intsOf] at h
    split at h
    · rename_i hk
      obtain ⟨l', h', rfl⟩ := Option.map_eq_some_iff.1 h
      simp [intsOf_spec h', hk]
    · cases h
theorem boolsOf_spec : ∀ {cs : List SV} {l : List Bool}, boolsOf cs = some l → l.map SV.bool = cs
  | [], l, h => by simp [boolsOf] at h; subst h; rfl
  | .bool b :: cs, l, h => by
    simp only [boolsOf] at h
    obtain ⟨l', h', rfl⟩ := Option.map_eq_some_iff.1 h
    simp [boolsOf_spec h']
theorem strsOf_spec : ∀ {cs : List SV} {l : List (List UInt8)}, strsOf cs = some l → l.map SV.str = cs
  | [], l, h => by simp [strsOf] at h; subst h; rfl
  | .str b :: cs, l, h => by
    simp only [strsOf] at h
    obtain ⟨l', h', rfl⟩ := Option.map_eq_some_iff.1 h
    simp [strsOf_spec h']
theorem chunks_spec {n : Nat} : ∀ (f : Nat) (cs : List SV), cs.length = f * n → (chunks f n cs).flatten = cs ∧ (chunks f n cs).length = f ∧ ∀ c ∈ chunks f n cs, c.length = n
  | 0, cs, h => by
    have : cs = [] := List.eq_nil_of_length_eq_zero (by simpa using h)
    subst this
    simp [chunks]
  | f + 1, cs, h => by
    rw [Nat.succ_mul] at h
    obtain ⟨h1, h2, h3⟩ := chunks_spec (n := n) f (cs.drop n) (by simp; omega)
    refine ⟨by simp [chunks, h1], by simp [chunks, h2], fun c hc => ?_⟩
    simp only [chunks, List.mem_cons] at hc
    rcases hc with rfl | hc
    · simp; omega
    · exact h3 c hc
theorem mkRow_spec {r r' : Row SV} {len : Nat} {cs : List SV} (hone : cs.all SV.one = true) (hl : cs.length = len * r.size) (h : mkRow r len cs = some r') : r'.Wf ∧ r'.len = len ∧ r'.size = r.size ∧ r'.cells = cs := by
  unfold mkRow at h
  split at h
  · obtain ⟨l, h1, rfl⟩ := Option.map_eq_some_iff.1 h
    have e := intsOf_spec h1
    refine ⟨trivial, ?_, rfl, e⟩
    rw [← e] at hl; simpa [Row.size, Row.len] using hl
  · obtain ⟨l, h1, rfl⟩ := Option.map_eq_some_iff.1 h
    have e := boolsOf_spec h1
    refine ⟨trivial, ?_, rfl, e⟩
    rw [← e] at hl; simpa [Row.size, Row.len] using hl
  · obtain ⟨l, h1, rfl⟩ := Option.map_eq_some_iff.1 h
    have e := strsOf_spec h1
    refine ⟨trivial, ?_, rfl, e⟩
    rw [← e] at hl; simpa [Row.size, Row.len] using hl
  · simp only [Option.some.injEq] at h; subst h
    obtain ⟨h1, h2, h3⟩ := chunks_spec len cs hl
    refine ⟨fun c hc => ⟨h3 c hc, ?_⟩, h2, rfl, h1⟩
    rw [List.all_eq_true] at hone ⊢
    intro x hx
    exact hone x (by rw [← h1]; exact List.mem_flatten.2 ⟨c, hc, hx⟩)
theorem row0_spec {P : Program} {e : TypeId} {r : Row SV} (h : row0 P e = some r) : ∃ i, P.info? e = some i ∧ i.size = r.size ∧ 0 < i.size ∧ r.len = 0 ∧ r.cells = [] ∧ r.Wf := by
  unfold row0 at h
  split at h
  · cases h
  split at h
  · rename_i k i hu hi
    split at h
    · rename_i h1; simp only [Option.some.injEq] at h; subst h; exact ⟨i, hi, h1, by omega, rfl, rfl, trivial⟩
    · cases h
  · rename_i i hu hi
    split at h
    · rename_i h1; simp only [Option.some.injEq] at h; subst h; exact ⟨i, hi, h1, by omega, rfl, rfl, trivial⟩
    · cases h
  · rename_i i hu hi
    split at h
    · rename_i h1; simp only [Option.some.injEq] at h; subst h; exact ⟨i, hi, h1, by omega, rfl, rfl, trivial⟩
    · cases h
  · rename_i i _ _ _ hu hi
    split at h
    · rename_i h1; simp only [Option.some.injEq] at h; subst h; exact ⟨_, by assumption, rfl, h1, rfl, rfl, by intro c hc; cases hc⟩
    · cases h
  · cases h
theorem row0_lt {P : Program} {e : TypeId} {r : Row SV} (h : row0 P e = some r) : e < 1000000 := by
  unfold row0 at h
  split at h
  · cases h
  · rename_i h1; exact Nat.lt_of_not_le h1
end Go.Proofs.Ytgklfolmlcfjgaa.Y
