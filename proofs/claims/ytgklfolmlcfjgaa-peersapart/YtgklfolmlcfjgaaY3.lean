/- The second walk is sound: the second part: the operations that look at no memory. -/
import Derived.ChangeKeysEq
import Derived.Test.YtgklfolmlcfjgaaY2
namespace Go.Proofs.Ytgklfolmlcfjgaa.Y
open Go.RowKit
set_option linter.unusedSimpArgs false
set_option linter.unusedVariables false

/-! ### Values, taken apart -/
section
variable {E : Env} {v : Value}
theorem Is.int_inv {k : IntKind} {m : Int} (h : Is E (.int k m) v) : v = .int k m := by cases h; rfl
theorem Is.bool_inv {b : Bool} (h : Is E (.bool b) v) : v = .bool b := by cases h; rfl
theorem Is.str_inv {s : List UInt8} (h : Is E (.str s) v) : v = .string ⟨s.toArray⟩ := by cases h; rfl
theorem Is.nil_inv (h : Is E .nil v) : v = .slice none 0 0 := by cases h; rfl
theorem Is.gp_inv {g o : Nat} (h : Is E (.gp g o) v) : v = .pointer (some ⟨g, o, none⟩) := by cases h; rfl
theorem Is.ptr_inv {d o : Nat} (h : Is E (.ptr d o) v) : v = .pointer (some ⟨E.β d, o, none⟩) ∧ ∃ c, E.L d = some c := by cases h; exact ⟨rfl, _, by assumption⟩
theorem Is.agg_inv {cs : List SV} (h : Is E (.agg cs) v) : ∃ vs : List Value, v = .agg vs.toArray ∧ All E cs vs := by cases h; exact ⟨_, rfl, by assumption, by assumption⟩
theorem Is.tup_inv {cs : List SV} (h : Is E (.tup cs) v) : ∃ vs : List Value, v = .tuple vs.toArray ∧ All E cs vs := by cases h; exact ⟨_, rfl, by assumption, by assumption⟩
theorem Is.clo_inv {f : Nat} {cs : List SV} (h : Is E (.clo f cs) v) : ∃ vs : List Value, v = .func (.func f) #[] vs.toArray ∧ All E cs vs := by cases h; exact ⟨_, rfl, by assumption, by assumption⟩
theorem Is.one_cell {x : SV} (h : Is E x v) (h1 : x.one = true) : v.oneCell' = true := by cases h <;> first | rfl | (simp [SV.one] at h1; done)
theorem Is.cells {x : SV} (h : Is E x v) (h1 : x.cells.all SV.one = true) : All E x.cells v.cells.toList := by
  cases x
  case agg cs =>
    obtain ⟨vs, rfl, hh⟩ := h.agg_inv
    simpa [SV.cells, Value.cells] using hh
  case tup cs => simp [SV.cells, SV.one] at h1
  case unk => simp [SV.cells, SV.one] at h1
  all_goals
    have hv : v.cells = #[v] := by cases h <;> rfl
    rw [hv]
    exact All.cons h All.nil
theorem ne_unk_cells {x : SV} (h : x.cells.all SV.one = true) : x ≠ .unk := by
  intro he; subst he; simp [SV.cells, SV.one] at h
end

/-! ### Lists of cells -/
def RelL (p : SV → Value → Prop) (cs : List SV) (vs : List Value) : Prop := vs.length = cs.length ∧ ∀ (j : Nat) x u, cs[j]? = some x → vs[j]? = some u → p x u
theorem setAt_rel {p : SV → Value → Prop} : ∀ (ns : List SV) (us : List Value) (cs : List SV) (vs : List Value) (o : Nat), o + ns.length ≤ cs.length → RelL p ns us → RelL p cs vs →
    RelL p (setAt cs o ns) (vs.take o ++ us ++ vs.drop (o + us.length))
  | [], us, cs, vs, o, _, h1, h2 => by
    have : us = [] := List.eq_nil_of_length_eq_zero h1.1
    subst this
    simpa [setAt] using h2
  | x :: ns, us, cs, vs, o, hle, h1, h2 => by
    cases us with
    | nil => have := h1.1; simp at this
    | cons u us =>
      simp only [List.length_cons] at hle
      have h1' : RelL p ns us := ⟨by have := h1.1; simpa using this, fun j y w hy hw => h1.2 (j + 1) y w (by simpa using hy) (by simpa using hw)⟩
      have h2' : RelL p (cs.set o x) (vs.set o u) := by
        refine ⟨by simp [h2.1], fun j y w hy hw => ?_⟩
        rw [List.getElem?_set] at hy hw
        by_cases hj : o = j
        · subst hj
          rw [if_pos rfl] at hy hw
          have hlt : o < cs.length := by omega
          rw [if_pos hlt] at hy
          rw [if_pos (by rw [h2.1]; exact hlt)] at hw
          simp at hy hw
          subst hy hw
          exact h1.2 0 _ _ rfl rfl
        · rw [if_neg hj] at hy hw
          exact h2.2 j y w hy hw
      have ih := setAt_rel ns us (cs.set o x) (vs.set o u) (o + 1) (by simp; omega) h1' h2'
      rw [setAt]
      have hlt : o < vs.length := by rw [h2.1]; omega
      have e : (vs.set o u).take (o + 1) ++ us ++ (vs.set o u).drop (o + 1 + us.length) = vs.take o ++ (u :: us) ++ vs.drop (o + (u :: us).length) := by
        rw [List.take_add_one, List.take_set_of_le (Nat.le_refl _), List.getElem?_set_self hlt]
        rw [List.drop_set_of_lt (by omega)]
        simp [Nat.add_assoc, Nat.add_comm 1]
      rw [e] at ih
      exact ih
theorem setAt_len : ∀ (vs cs : List SV) (o : Nat), (setAt cs o vs).length = cs.length
  | [], cs, o => rfl
  | v :: vs, cs, o => by rw [setAt, setAt_len vs]; simp
theorem setAt_all {E : Env} {ns cs : List SV} {us vs : List Value} {o : Nat} (hle : o + ns.length ≤ cs.length) (h1 : All E ns us) (h2 : All E cs vs) : All E (setAt cs o ns) (vs.take o ++ us ++ vs.drop (o + us.length)) :=
  setAt_rel (p := Is E) ns us cs vs o hle h1 h2
theorem setAt_allU {E : Env} {ns cs : List SV} {us vs : List Value} {o : Nat} (hle : o + ns.length ≤ cs.length) (h1 : All E ns us) (h2 : AllU E cs vs) : AllU E (setAt cs o ns) (vs.take o ++ us ++ vs.drop (o + us.length)) :=
  setAt_rel (p := fun x u => x = .unk ∨ Is E x u) ns us cs vs o hle h1.u h2
theorem fold_set : ∀ (vs : List Value) (off k : Nat) (cs : Array Value), ((vs.zipIdx k).foldl (fun cs (p : Value × Nat) => cs.setIfInBounds (off + p.2) p.1) cs).toList = (vs.zipIdx k).foldl (fun l p => l.set (off + p.2) p.1) cs.toList
  | [], _, _, _ => rfl
  | v :: vs, off, k, cs => by
    simp only [List.zipIdx_cons, List.foldl_cons]
    rw [fold_set vs off (k + 1)]
    simp
theorem fold_take : ∀ (us vs : List Value) (off k : Nat), off + k + us.length ≤ vs.length → (us.zipIdx k).foldl (fun (l : List Value) p => l.set (off + p.2) p.1) vs = vs.take (off + k) ++ us ++ vs.drop (off + k + us.length)
  | [], vs, off, k, _ => by simp
  | u :: us, vs, off, k, h => by
    simp only [List.length_cons] at h
    simp only [List.zipIdx_cons, List.foldl_cons]
    rw [fold_take us (vs.set (off + k) u) off (k + 1) (by simp; omega)]
    have hlt : off + k < vs.length := by omega
    rw [show off + (k + 1) = off + k + 1 by omega, List.take_add_one, List.take_set_of_le (Nat.le_refl _), List.getElem?_set_self hlt, List.drop_set_of_lt (by omega)]
    simp [Nat.add_assoc, Nat.add_comm 1]
theorem fill_of {E : Env} (places : Nat → Option (Nat × Nat)) : ∀ (ps : List (Nat × Nat × Nat × SV × Value)) (z cs : List SV) (zv : List Value), (∀ p ∈ ps, places p.1 = some (p.2.1, p.2.2.1)) → (∀ p ∈ ps, Is E p.2.2.2.1 p.2.2.2.2) → All E z zv →
    fillP z (ps.map fun p => (p.2.1, p.2.2.1)) (ps.map fun p => p.2.2.2.1) = some cs →
    ∃ cv : List Value, Instr.fill places zv.toArray (ps.map fun p => (p.1, p.2.2.2.2)) = some cv.toArray ∧ All E cs cv
  | [], z, cs, zv, _, _, hz, h => by simp [fillP] at h; subst h; exact ⟨zv, by simp [Instr.fill], hz⟩
  | (i, o, m, v, u) :: ps, z, cs, zv, hp, hi, hz, h => by
    simp only [List.map_cons, fillP] at h
    split at h
    · rename_i hc
      obtain ⟨h1, h2, h3⟩ := hc
      have hiv := hi _ (List.mem_cons_self ..)
      simp only at hiv
      have hcl := hiv.cells h3
      have hsz : u.cells.size = m := by have := hcl.1; simp only [Array.length_toList] at this; omega
      have hset := setAt_all (o := o) (by omega) hcl hz
      obtain ⟨cv, e1, e2⟩ := fill_of places ps (setAt z o v.cells) cs _ (fun p hp' => hp p (List.mem_cons_of_mem _ hp')) (fun p hp' => hi p (List.mem_cons_of_mem _ hp')) hset h
      refine ⟨cv, ?_, e2⟩
      have hpl := hp _ (List.mem_cons_self ..)
      simp only at hpl
      have hzl := hz.1
      simp only [List.map_cons, Instr.fill, hpl]
      rw [if_neg (by simp [hsz]; omega)]
      rw [← e1]
      congr 1
      apply Array.ext'
      have e3 := fold_set u.cells.toList o 0 zv.toArray
      rw [fold_take _ _ _ _ (by simp [hsz]; omega)] at e3
      simp only [Nat.add_zero] at e3
      rw [← Array.foldl_toList, Array.toList_zipIdx]
      simpa using e3
    · cases h
theorem fillP_ne : ∀ (ps : List (Nat × Nat)) (vs z cs : List SV), fillP z ps vs = some cs → ∀ v ∈ vs, v.cells.all SV.one = true
  | [], [], z, cs, h => by simp
  | [], v :: vs, z, cs, h => by simp [fillP] at h
  | _ :: _, [], z, cs, h => by simp [fillP] at h
  | (o, m) :: ps, v :: vs, z, cs, h => by
    simp only [fillP] at h
    split at h
    · rename_i hc
      intro u hu
      rcases List.mem_cons.1 hu with rfl | hu
      · exact hc.2.2
      · exact fillP_ne ps vs _ cs h u hu
    · cases h
theorem fillP_len : ∀ (ps : List (Nat × Nat)) (vs z cs : List SV), fillP z ps vs = some cs → cs.length = z.length
  | [], [], z, cs, h => by simp [fillP] at h; subst h; rfl
  | [], v :: vs, z, cs, h => by simp [fillP] at h
  | _ :: _, [], z, cs, h => by simp [fillP] at h
  | (o, k) :: ps, v :: vs, z, cs, h => by
    simp only [fillP] at h
    split at h
    · rw [fillP_len ps vs _ cs h]; simp [setAt_len]
    · cases h
theorem svOf0_is {E : Env} {v : Value} {x : SV} (h : svOf0 v = some x) : Is E x v ∧ x.one = true := by
  unfold svOf0 at h
  split at h <;> simp at h <;> subst h
  · exact ⟨.int _ _, rfl⟩
  · exact ⟨.bool _, rfl⟩
  · exact ⟨.str _, rfl⟩
  · exact ⟨.nil, rfl⟩
theorem mapM_svOf0 {E : Env} : ∀ {vs : List Value} {xs : List SV}, vs.mapM svOf0 = some xs → All E xs vs ∧ xs.all SV.one = true
  | [], xs, h => by simp at h; subst h; exact ⟨All.nil, rfl⟩
  | v :: vs, xs, h => by
    simp only [List.mapM_cons, Option.bind_eq_bind, Option.pure_def, Option.bind_eq_some_iff] at h
    obtain ⟨x, hx, ys, hys, he⟩ := h
    simp only [Option.some.injEq] at he
    subst he
    obtain ⟨i1, i2⟩ := mapM_svOf0 (E := E) hys
    obtain ⟨e1, e2⟩ := svOf0_is (E := E) hx
    exact ⟨All.cons e1 i1, by simp [e2, List.all_eq_true] at i2 ⊢; exact i2⟩
theorem zero_of {P : Program} {E : Env} {T : TypeId} {z : List SV} (h : ((P.info? T).bind (·.zero)).bind cellsSV = some z) : ∃ it zv, P.info? T = some it ∧ it.zero = some zv ∧ All E z zv.cells.toList ∧ z.all SV.one = true := by
  cases hi : P.info? T with
  | none => simp [hi] at h
  | some it =>
    cases hz : it.zero with
    | none => simp [hi, hz] at h
    | some zv =>
      simp [hi, hz, cellsSV] at h
      obtain ⟨e1, e2⟩ := mapM_svOf0 (E := E) h
      exact ⟨it, zv, rfl, hz, e1, e2⟩

section
variable {P : Program} {n : Nat} {W : Wd} {A0 : Nat → Prop} {s : St} {a : Act} {w : World} {β : Nat → Nat} {σ : Nat → Sl} {o : Oper} {K : Act → World → Prop} {Q : Exit → Act → World → Prop}

theorem wp_of_value {u : Value} (h : (execOp a.eval o).run P w = .ok (.value u) w) (hK : K (a.put o.dst u) w) : o.wp P a w K Q := by
  unfold Oper.wp; rw [h]; exact hK
/-- What an operation comes to that leaves the world alone. -/
def Yld (P : Program) (A0 : Nat → Prop) (s : St) (a : Act) (w : World) (β : Nat → Nat) (σ : Nat → Sl) (o : Oper) (v : SV) : Prop :=
  ∃ u, (execOp a.eval o).run P w = .ok (.value u) w ∧ (v = .unk ∨ Is (env A0 s w β σ) v u)
theorem yld_sound (hs : SimW n W A0 s a w β σ) (hd : ∀ d, o.dst = some d → W.okd n d) {v : SV} (hy : Yld P A0 s a w β σ o v) {s' : St} (happ : s' = s.put o.dst v) (hK : ∀ a' w', Sim n W A0 s' a' w' → K a' w') : o.wp P a w K Q := by
  obtain ⟨u, hr, hv⟩ := hy
  subst happ
  exact wp_of_value hr (hK _ _ ⟨β, σ, hs.put o.dst hd hv⟩)

theorem run_binI {E : Env} {ρ : Operand → Value} (op : BinOp) (T T' : TypeId) (x y : Operand) (k : IntKind) (m m' : Int) (ex : ρ x = .int k m) (ey : ρ y = .int k m') {p : Prop} {v : SV} (hb : binI op k m m' = some (p, v)) (hp : p) (ho : o.op = .binOp op T x y T') :
    ∃ u, (execOp ρ o).run P w = .ok (.value u) w ∧ Is E v u := by
  cases op <;> simp only [binI] at hb <;> (try (cases hb; done)) <;> simp only [Option.some.injEq, Prod.mk.injEq] at hb <;> obtain ⟨rfl, rfl⟩ := hb
  case add => exact ⟨_, by simp [execOp, ho, ex, ey, go_sem, Op.intArith, Op.intDiv, hp], .int _ _⟩
  case sub => exact ⟨_, by simp [execOp, ho, ex, ey, go_sem, Op.intArith, Op.intDiv, hp], .int _ _⟩
  case mul => exact ⟨_, by simp [execOp, ho, ex, ey, go_sem, Op.intArith, Op.intDiv, hp], .int _ _⟩
  case quo => exact ⟨_, by simp [execOp, ho, ex, ey, go_sem, Op.intArith, Op.intDiv, hp], .int _ _⟩
  case rem => exact ⟨_, by simp [execOp, ho, ex, ey, go_sem, Op.intArith, Op.intDiv, hp], .int _ _⟩
  case and => exact ⟨_, by simp [execOp, ho, ex, ey, go_sem, Op.intArith, Op.intDiv, hp], .int _ _⟩
  case or => exact ⟨_, by simp [execOp, ho, ex, ey, go_sem, Op.intArith, Op.intDiv, hp], .int _ _⟩
  case xor => exact ⟨_, by simp [execOp, ho, ex, ey, go_sem, Op.intArith, Op.intDiv, hp], .int _ _⟩
  case andNot => exact ⟨_, by simp [execOp, ho, ex, ey, go_sem, Op.intArith, Op.intDiv, hp], .int _ _⟩
  case eql => exact ⟨_, by simp [execOp, ho, ex, ey, go_sem, Op.intArith, Op.intDiv, hp], .bool _⟩
  case neq => exact ⟨_, by simp [execOp, ho, ex, ey, go_sem, Op.intArith, Op.intDiv, hp], .bool _⟩
  case lss => exact ⟨_, by simp [execOp, ho, ex, ey, go_sem, Op.intArith, Op.intDiv, hp], .bool _⟩
  case leq => exact ⟨_, by simp [execOp, ho, ex, ey, go_sem, Op.intArith, Op.intDiv, hp], .bool _⟩
  case gtr => exact ⟨_, by simp [execOp, ho, ex, ey, go_sem, Op.intArith, Op.intDiv, hp], .bool _⟩
  case geq => exact ⟨_, by simp [execOp, ho, ex, ey, go_sem, Op.intArith, Op.intDiv, hp], .bool _⟩
theorem run_shl {ρ : Operand → Value} (T T' : TypeId) (x y : Operand) (k k' : IntKind) (m m' : Int) (ex : ρ x = .int k m) (ey : ρ y = .int k' m') (hp : 0 ≤ m') (ho : o.op = .binOp .shl T x y T') :
    (execOp ρ o).run P w = .ok (.value (.int k (k.wrap (m * 2 ^ (min m'.toNat k.bits))))) w := by
  have : ¬ m' < 0 := by omega
  simp only [execOp, ho, ex, ey, eqGuard_shl, binOp_shl, Op.shift, if_neg this]
  simp
theorem run_shr {ρ : Operand → Value} (T T' : TypeId) (x y : Operand) (k k' : IntKind) (m m' : Int) (ex : ρ x = .int k m) (ey : ρ y = .int k' m') (hp : 0 ≤ m') (ho : o.op = .binOp .shr T x y T') :
    (execOp ρ o).run P w = .ok (.value (.int k (m.fdiv (2 ^ (min m'.toNat k.bits))))) w := by
  have : ¬ m' < 0 := by omega
  simp only [execOp, ho, ex, ey, eqGuard_shr, binOp_shr, Op.shift, if_neg this]
  simp
theorem bin_yld (hs : SimW n W A0 s a w β σ) {op : BinOp} {T T' : TypeId} {x y : Operand} {x' y' : SO} (hx : cO x = some x') (hy : cO y = some y') {p : Prop} {v : SV} (hb : binV op (x'.ev s) (y'.ev s) = some (p, v)) (hp : p) (ho : o.op = .binOp op T x y T') : Yld P A0 s a w β σ o v := by
  have ex := fun h => eval_of hs hx h
  have ey := fun h => eval_of hs hy h
  generalize x'.ev s = vx at *
  generalize y'.ev s = vy at *
  unfold binV at hb
  split at hb
  · simp only [Option.some.injEq, Prod.mk.injEq] at hb
    obtain ⟨rfl, rfl⟩ := hb
    exact ⟨_, run_shl T T' x y _ _ _ _ (ex (by simp)).int_inv (ey (by simp)).int_inv hp ho, .inr (.int _ _)⟩
  · simp only [Option.some.injEq, Prod.mk.injEq] at hb
    obtain ⟨rfl, rfl⟩ := hb
    exact ⟨_, run_shr T T' x y _ _ _ _ (ex (by simp)).int_inv (ey (by simp)).int_inv hp ho, .inr (.int _ _)⟩
  · split at hb
    · rename_i hk; subst hk
      obtain ⟨u, h1, h2⟩ := run_binI (P := P) (w := w) (E := env A0 s w β σ) (o := o) op T T' x y _ _ _ (ex (by simp)).int_inv (ey (by simp)).int_inv hb hp ho
      exact ⟨u, h1, .inr h2⟩
    · cases hb
  · cases hb
theorem run_eqB {ρ : Operand → Value} (T T' : TypeId) (x y : Operand) (m m' : Bool) (hT : P.underlying T = some .bool) (ex : ρ x = .bool m) (ey : ρ y = .bool m') (ho : o.op = .binOp .eql T x y T') :
    (execOp ρ o).run P w = .ok (.value (.bool (m == m'))) w := by
  simp only [execOp, ho, ex, ey, eqGuard_at_bool, Sem.run_bind, Sem.run_pure, Result.andThen_ok, run_eql_bool w T m m' hT]
theorem run_neB {ρ : Operand → Value} (T T' : TypeId) (x y : Operand) (m m' : Bool) (hT : P.underlying T = some .bool) (ex : ρ x = .bool m) (ey : ρ y = .bool m') (ho : o.op = .binOp .neq T x y T') :
    (execOp ρ o).run P w = .ok (.value (.bool (!(m == m')))) w := by
  simp only [execOp, ho, ex, ey, eqGuard_at_bool, Sem.run_bind, Sem.run_pure, Result.andThen_ok, run_neq_bool w T m m' hT]
theorem eqb_yld (hs : SimW n W A0 s a w β σ) {neg : Bool} {T T' : TypeId} {x y : Operand} {x' y' : SO} (hx : cO x = some x') (hy : cO y = some y') (hT : P.underlying T = some .bool) {m m' : Bool} (hm : x'.ev s = .bool m) (hm' : y'.ev s = .bool m')
    (ho : o.op = .binOp (if neg then .neq else .eql) T x y T') : Yld P A0 s a w β σ o (.bool (if neg then !(m == m') else m == m')) := by
  have ex := eval_of hs hx (by simp [hm])
  have ey := eval_of hs hy (by simp [hm'])
  rw [hm] at ex; rw [hm'] at ey
  cases neg
  · exact ⟨_, run_eqB T T' x y _ _ hT ex.bool_inv ey.bool_inv ho, .inr (.bool _)⟩
  · exact ⟨_, run_neB T T' x y _ _ hT ex.bool_inv ey.bool_inv ho, .inr (.bool _)⟩

/-! Equality of structs. -/
theorem run_part_one (t : TypeId) (d : TypeDesc) (cs : Array Value) (off : Nat) (v : Value) (hu : P.underlying t = some d) (hd : isAggD d = false) (hv : cs[off]? = some v) : (part t cs off).run P w = .ok v w := by
  have hagg : (isAgg t).run P w = .ok false w := by
    unfold isAgg
    rw [Sem.run_bind, run_underlying hu w]
    cases d <;> simp_all [isAggD]
  simp [part, hagg, hv]
theorem run_equalIn_atom {E : Env} {f : Field} {o t : Nat} (hf : fieldTag P f = some (o, t)) (d : Nat) {x y : SV} {b : Bool} (hb : cellEq t x y = some b) {vx vy : Value} (hx : Is E x vx) (hy : Is E y vy) :
    f.name ≠ "_" ∧ o = f.offset ∧ ∃ dd, P.underlying f.type = some dd ∧ isAggD dd = false ∧ (Op.equalIn (d + 1) f.type vx vy).run P w = .ok b w := by
  unfold fieldTag at hf
  by_cases hn : f.name = "_"
  · simp [hn] at hf
  · rw [if_neg hn] at hf
    cases hu : P.underlying f.type with
    | none => simp [hu] at hf
    | some dd =>
      rw [hu] at hf
      cases dd <;> simp at hf
      case int k0 =>
        obtain ⟨rfl, rfl⟩ := hf
        refine ⟨hn, rfl, _, rfl, rfl, ?_⟩
        cases x <;> cases y <;> simp [cellEq] at hb
        obtain ⟨rfl, rfl⟩ := hb
        rw [hx.int_inv, hy.int_inv]
        exact run_equalIn_int w d _ _ _ _ _ hu
      case bool =>
        obtain ⟨rfl, rfl⟩ := hf
        refine ⟨hn, rfl, _, rfl, rfl, ?_⟩
        cases x <;> cases y <;> simp [cellEq] at hb
        subst hb
        rw [hx.bool_inv, hy.bool_inv]
        exact run_equalIn_bool w d _ _ _ hu
      case string =>
        obtain ⟨rfl, rfl⟩ := hf
        refine ⟨hn, rfl, _, rfl, rfl, ?_⟩
        cases x <;> cases y <;> simp [cellEq] at hb
        rename_i s1 s2
        subst hb
        rw [hx.str_inv, hy.str_inv]
        have := run_equalIn_string (P := P) w d f.type ⟨s1.toArray⟩ ⟨s2.toArray⟩ hu
        simpa [ByteArray.toList_eq] using this
theorem eqCells_append {xs ys : List SV} : ∀ {os ps : List (Nat × Nat)} {b : Bool}, eqCells xs ys (os ++ ps) = some b → ∃ b1 b2, eqCells xs ys os = some b1 ∧ eqCells xs ys ps = some b2 ∧ b = (b1 && b2)
  | [], ps, b, h => ⟨true, b, rfl, h, by simp⟩
  | (o, t) :: os, ps, b, h => by
    simp only [List.cons_append, eqCells] at h ⊢
    split at h
    · rename_i x y hx hy
      split at h
      · rename_i b1 b2 hb1 hb2
        obtain ⟨c1, c2, e1, e2, e3⟩ := eqCells_append hb2
        simp only [Option.some.injEq] at h
        refine ⟨b1 && c1, c2, ?_, e2, by rw [← h, e3, Bool.and_assoc]⟩
        rw [hb1, e1]
      · cases h
    · cases h
theorem eqItems_run {E : Env} (d : Nat) {e : TypeId} {k : IntKind} (hu : P.underlying e = some (.int k)) (off n : Nat) {xs ys : List SV} {vx vy : List Value} (ax : All E xs vx) (ay : All E ys vy) : ∀ (l : List Nat) (b : Bool), (∀ j ∈ l, j < n) → eqCells xs ys (l.map fun j => (off + j, 0)) = some b →
    (Op.eqItems (d + 1) e 1 (vx.toArray.extract off (off + n)) (vy.toArray.extract off (off + n)) l).run P w = .ok b w
  | [], b, _, h => by simp [eqCells] at h; subst h; simp [Op.eqItems]
  | j :: l, b, hl, h => by
    simp only [List.map_cons, eqCells] at h
    split at h
    · rename_i x y hx hy
      split at h
      · rename_i b1 b2 hb1 hb2
        simp only [Option.some.injEq] at h; subst h
        have ih := eqItems_run d hu off n ax ay l b2 (fun i hi => hl i (List.mem_cons_of_mem _ hi)) hb2
        have hjn := hl j (List.mem_cons_self ..)
        obtain ⟨ux, gx, ix⟩ := ax.get hx
        obtain ⟨uy, gy, iy⟩ := ay.get hy
        cases x <;> cases y <;> simp [cellEq] at hb1
        obtain ⟨rfl, rfl⟩ := hb1
        rename_i kk n1 n2
        rw [ix.int_inv] at gx
        rw [iy.int_inv] at gy
        have hlx : off + j < vx.length := (List.getElem?_eq_some_iff.1 gx).1
        have hly : off + j < vy.length := (List.getElem?_eq_some_iff.1 gy).1
        have gx' : (vx.toArray.extract off (off + n))[j * 1]? = some (.int kk n1) := by
          rw [Nat.mul_one, Array.getElem?_extract]
          simp [gx]; omega
        have gy' : (vy.toArray.extract off (off + n))[j * 1]? = some (.int kk n2) := by
          rw [Nat.mul_one, Array.getElem?_extract]
          simp [gy]; omega
        simp only [Op.eqItems, Sem.run_bind, run_part_one e _ _ _ _ hu rfl gx', run_part_one e _ _ _ _ hu rfl gy', Result.andThen_ok, run_equalIn_int w d _ _ _ _ _ hu]
        cases hc : (n1 == n2)
        · simp
        · simpa using ih
      · cases h
    · cases h
theorem run_isAggT {t : TypeId} {d : TypeDesc} (h : P.underlying t = some d) : (isAgg t).run P w = .ok (isAggD d) w := by
  unfold isAgg
  rw [Sem.run_bind, run_underlying h w]
  cases d <;> rfl
theorem run_equalIn_field {E : Env} {f : Field} {os : List (Nat × Nat)} (hf : fieldTags P f = some os) (d : Nat) {xs ys : List SV} {b : Bool} (hb : eqCells xs ys os = some b) {vx vy : List Value} (ax : All E xs vx) (ay : All E ys vy) :
    f.name ≠ "_" ∧ ∃ ux uy, (part f.type vx.toArray f.offset).run P w = .ok ux w ∧ (part f.type vy.toArray f.offset).run P w = .ok uy w ∧ (Op.equalIn (d + 2) f.type ux uy).run P w = .ok b w := by
  unfold fieldTags at hf
  split at hf
  · rename_i n e hu
    split at hf
    · cases hf
    · rename_i hn
      split at hf
      · rename_i k i i' he hi hi'
        split at hf
        · rename_i h1
          obtain ⟨h1, h2⟩ := h1
          simp only [Option.some.injEq] at hf
          subst hf
          have hpart : ∀ vs : List Value, (part f.type vs.toArray f.offset).run P w = .ok (.agg (vs.toArray.extract f.offset (f.offset + n))) w := fun vs => by
            simp [part, run_isAggT hu, isAggD, run_sizeOf w hi', h2]
          refine ⟨hn, _, _, hpart vx, hpart vy, ?_⟩
          rw [run_equalIn_array w (d + 1) _ _ hu hi, h1]
          exact eqItems_run d he f.offset n ax ay (List.range n) b (fun j hj => List.mem_range.1 hj) hb
        · cases hf
      · cases hf
  · simp only [Option.map_eq_some_iff] at hf
    obtain ⟨⟨o, t⟩, hft, rfl⟩ := hf
    simp only [eqCells] at hb
    split at hb
    · rename_i x y hx hy
      split at hb
      · rename_i b1 b2 hb1 hb2
        simp only [Option.some.injEq] at hb hb2
        subst hb2
        simp only [Bool.and_true] at hb
        subst hb
        obtain ⟨ux, gx, ix⟩ := ax.get hx
        obtain ⟨uy, gy, iy⟩ := ay.get hy
        obtain ⟨hn, rfl, dd, hu, hd, he⟩ := run_equalIn_atom (P := P) (w := w) hft (d + 1) hb1 ix iy
        have gx' : vx.toArray[f.offset]? = some ux := by simp [gx]
        have gy' : vy.toArray[f.offset]? = some uy := by simp [gy]
        exact ⟨hn, ux, uy, run_part_one f.type dd _ _ _ hu hd gx', run_part_one f.type dd _ _ _ hu hd gy', he⟩
      · cases hb
    · cases hb
theorem eqFields_run {E : Env} (d : Nat) : ∀ (fs : List Field) (os : List (List (Nat × Nat))) (xs ys : List SV) (vx vy : List Value) (b : Bool), All E xs vx → All E ys vy → fs.mapM (fieldTags P) = some os → eqCells xs ys os.flatten = some b →
    (Op.eqFields (d + 2) vx.toArray vy.toArray fs).run P w = .ok b w
  | [], os, xs, ys, vx, vy, b, _, _, ho, h => by simp at ho; subst ho; simp [eqCells] at h; subst h; simp [Op.eqFields]
  | f :: fs, os, xs, ys, vx, vy, b, ax, ay, ho, h => by
    simp only [List.mapM_cons, Option.bind_eq_bind, Option.pure_def, Option.bind_eq_some_iff] at ho
    obtain ⟨ts, hft, os', hos, he⟩ := ho
    simp only [Option.some.injEq] at he
    subst he
    rw [List.flatten_cons] at h
    obtain ⟨b1, b2, hb1, hb2, rfl⟩ := eqCells_append h
    have ih := eqFields_run d fs os' xs ys vx vy b2 ax ay hos hb2
    obtain ⟨hn, ux, uy, px, py, he⟩ := run_equalIn_field (P := P) (w := w) hft d hb1 ax ay
    simp only [Op.eqFields, ne_eq, hn, not_false_eq_true, if_true, Sem.run_bind, px, py, Result.andThen_ok, he, Sem.run_ite]
    cases b1
    · simp
    · simpa using ih
theorem eqs_yld (hs : SimW n W A0 s a w β σ) {neg : Bool} {T T' : TypeId} {x y : Operand} {x' y' : SO} (hx : cO x = some x') (hy : cO y = some y') {fs : Array Field} {os : List (List (Nat × Nat))} (hT : P.underlying T = some (.struct fs)) (hos : fs.toList.mapM (fieldTags P) = some os)
    (h1 : P.stoodInHeld T = false) (h2 : P.eqGuardType P.depth T = false) {xs ys : List SV} (ex : x'.ev s = .agg xs) (ey : y'.ev s = .agg ys) {b : Bool} (hb : eqCells xs ys os.flatten = some b)
    (ho : o.op = .binOp (if neg then .neq else .eql) T x y T') : Yld P A0 s a w β σ o (.bool (if neg then !b else b)) := by
  have ax := eval_of hs hx (by simp [ex])
  have ay := eval_of hs hy (by simp [ey])
  rw [ex] at ax; rw [ey] at ay
  obtain ⟨vx, ax', gx⟩ := ax.agg_inv
  obtain ⟨vy, ay', gy⟩ := ay.agg_inv
  have hfo : P.fieldsOf T = fs := by simp [Program.fieldsOf, hT]
  have he := eqFields_run (P := P) (w := w) 9997 fs.toList os xs ys vx vy b gx gy hos hb
  have hst := run_equalIn_struct (P := P) w 9999 T vx.toArray vy.toArray (by rw [hfo]; exact hT) h1
  rw [hfo] at hst
  rw [he] at hst
  cases neg
  · refine ⟨.bool b, ?_, .inr (.bool _)⟩
    simp only [execOp, ho, Bool.false_eq_true, if_false, ax', ay', Sem.run_bind, run_eqGuard_agg w _ T x y _ _ h2, Result.andThen_ok, run_eql_struct, hst, Sem.run_pure]
  · refine ⟨.bool (!b), ?_, .inr (.bool _)⟩
    simp only [execOp, ho, if_true, ax', ay', Sem.run_bind, run_eqGuard_agg w _ T x y _ _ h2, Result.andThen_ok, run_neq_struct, hst, Sem.run_pure]

theorem aggN_spec {t : TypeId} {k : Option Nat} (h : aggN P t = some k) : ∃ d i, P.underlying t = some d ∧ P.info? t = some i ∧ k = if isAggD d then some i.size else none := by
  unfold aggN at h
  split at h
  · rename_i d i hd hi
    simp only [Option.some.injEq] at h
    exact ⟨d, i, hd, hi, h.symm⟩
  · cases h
theorem run_isAgg {t : TypeId} {d : TypeDesc} (h : P.underlying t = some d) : (isAgg t).run P w = .ok (isAggD d) w := by
  unfold isAgg
  rw [Sem.run_bind, run_underlying h w]
  cases d <;> simp [isAggD]
theorem mov_yld (hs : SimW n W A0 s a w β σ) {x : Operand} {y : SO} (hx : cO x = some y) (ho : o.op = .move x ∨ o.op = .assign x) : Yld P A0 s a w β σ o (y.ev s) := by
  refine ⟨a.eval x, by rcases ho with ho | ho <;> simp only [execOp, ho] <;> rfl, ?_⟩
  by_cases h : y.ev s = .unk
  · exact .inl h
  · exact .inr (eval_of hs hx h)
theorem pick_yld (hs : SimW n W A0 s a w β σ) {c x y : Operand} {c' x' y' : SO} (hc : cO c = some c') (hx : cO x = some x') (hy : cO y = some y') {b : Bool} (hb : c'.ev s = .bool b) (ho : o.op = .pick c x y) :
    Yld P A0 s a w β σ o (if b then x'.ev s else y'.ev s) := by
  have ec := eval_of hs hc (by simp [hb])
  rw [hb] at ec
  have ec' := ec.bool_inv
  refine ⟨if b then a.eval x else a.eval y, ?_, ?_⟩
  · simp only [execOp, ho, ec', asBool, Sem.run_bind, Sem.run_pure, Result.andThen_ok]
  · cases b
    · by_cases h : y'.ev s = .unk
      · exact .inl h
      · exact .inr (eval_of hs hy h)
    · by_cases h : x'.ev s = .unk
      · exact .inl h
      · exact .inr (eval_of hs hx h)
theorem neg_yld (hs : SimW n W A0 s a w β σ) {T : TypeId} {x : Operand} {x' : SO} (hx : cO x = some x') {k : IntKind} {m : Int} (ex : x'.ev s = .int k m) (ho : o.op = .unOp .neg T x) : Yld P A0 s a w β σ o (.int k (k.wrap (0 - m))) := by
  have ax := eval_of hs hx (by simp [ex])
  rw [ex] at ax
  have ax' := ax.int_inv
  refine ⟨.int k (k.wrap (0 - m)), ?_, .inr (.int _ _)⟩
  simp only [execOp, ho, ax', Op.unary, Op.intArith, Sem.run_bind, Sem.run_pure, Result.andThen_ok]
theorem not_yld (hs : SimW n W A0 s a w β σ) {T : TypeId} {x : Operand} {x' : SO} (hx : cO x = some x') {b : Bool} (ex : x'.ev s = .bool b) (ho : o.op = .unOp .not T x) : Yld P A0 s a w β σ o (.bool (!b)) := by
  have ax := eval_of hs hx (by simp [ex])
  rw [ex] at ax
  have ax' := ax.bool_inv
  refine ⟨.bool (!b), ?_, .inr (.bool _)⟩
  simp only [execOp, ho, ax', Op.unary, Sem.run_bind, Sem.run_pure, Result.andThen_ok]
theorem xor_yld (hs : SimW n W A0 s a w β σ) {T : TypeId} {x : Operand} {x' : SO} (hx : cO x = some x') {k : IntKind} {m : Int} (ex : x'.ev s = .int k m) (ho : o.op = .unOp .xor T x) : Yld P A0 s a w β σ o (.int k (bits .xor k (if k.signed then -1 else k.max) m)) := by
  have ax := eval_of hs hx (by simp [ex])
  rw [ex] at ax
  have ax' := ax.int_inv
  refine ⟨.int k (bits .xor k (if k.signed then -1 else k.max) m), ?_, .inr (.int _ _)⟩
  simp only [execOp, ho, ax', Op.unary, intBits_xor, Sem.run_bind, Sem.run_pure, Result.andThen_ok]
theorem conv_yld (hs : SimW n W A0 s a w β σ) {src dst : TypeId} {x : Operand} {x' : SO} (hx : cO x = some x') {k k' : IntKind} {m : Int} (ex : x'.ev s = .int k' m) {k0 : IntKind} (h1 : P.underlying src = some (.int k0)) (h2 : P.underlying dst = some (.int k))
    (ho : o.op = .convert src dst x) : Yld P A0 s a w β σ o (.int k (k.wrap m)) := by
  have ax := eval_of hs hx (by simp [ex])
  rw [ex] at ax
  have ax' := ax.int_inv
  refine ⟨.int k (k.wrap m), ?_, .inr (.int _ _)⟩
  simp only [execOp, ho, ax', convert, Sem.run_bind, run_underlying h1, run_underlying h2, Result.andThen_ok, Conv.intToInt, Sem.run_pure]
theorem faddr_run {T : TypeId} {x : Operand} {f : Nat} {ad : Addr} (ax' : a.eval x = .pointer (some ad)) {fs : Array Field} (hT : P.underlying T = some (.struct fs)) {fo m : Nat} (hp : place P fs f = some (fo, m + 1))
    (ho : o.op = .fieldAddr T x f) : (execOp a.eval o).run P w = .ok (.value (.pointer (some (ad.add fo)))) w := by
  simp only [place, Option.bind_eq_some_iff, Option.map_eq_some_iff, Prod.mk.injEq] at hp
  obtain ⟨fd, hfd, i, hi, rfl, hsz⟩ := hp
  have hsize : (sizeOf fd.type).run P w = .ok (m + 1) w := by simp [sizeOf, typeInfo, hi, hsz]
  simp only [execOp, ho, ax', Instr.fieldAt, Sem.run_bind, run_underlying hT, Result.andThen_ok, hfd, Instr.sureAddr, Sem.run_pure, fieldPlace, hsize, Sem.run_ite, Nat.add_one_ne_zero, if_false]
end
end Go.Proofs.Ytgklfolmlcfjgaa.Y
