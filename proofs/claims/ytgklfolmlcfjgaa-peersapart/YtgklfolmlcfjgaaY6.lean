/- The second walk is sound: the operations that look at memory, make it or write it. -/
import Derived.Test.YtgklfolmlcfjgaaY5
import Derived.Laws.Cover3
namespace Go.Proofs.Ytgklfolmlcfjgaa.Y
open Go.RowKit
set_option linter.unusedSimpArgs false
set_option linter.unusedVariables false
section
variable {P : Program} {n : Nat} {W : Wd} {A0 : Nat → Prop} {s : St} {a : Act} {w : World} {β : Nat → Nat} {σ : Nat → Sl} {o : Oper} {K : Act → World → Prop} {Q : Exit → Act → World → Prop}

theorem load_cells {E : Env} {T : TypeId} {k : Option Nat} (hk : aggN P T = some k) {b q : Nat} {cs : List SV} {vs : List Value} (hall : AllU E cs vs) (hcell : ∀ (j : Nat) u, vs[j]? = some u → w.cell? ⟨b, q + j, none⟩ = some u) {off : Nat} {v : SV} (hv : partV cs off k = some v) :
    ∃ u, (loadVar T ⟨b, q + off, none⟩).run P w = .ok u w ∧ Is E v u := by
  obtain ⟨dd, i, hd, hi, rfl⟩ := aggN_spec hk
  by_cases hag : isAggD dd = true
  · simp only [hag, if_true, partV] at hv
    split at hv
    · rename_i hle
      simp only [Option.some.injEq] at hv
      subst hv
      have hp := (hall.part off i.size).all hle.2
      refine ⟨.agg ((vs.drop off).take i.size).toArray, ?_, .agg _ _ hp.1 hp.2⟩
      have hsz : (sizeOf T).run P w = .ok i.size w := by simp [sizeOf, typeInfo, hi]
      have hl : ((vs.drop off).take i.size).length = i.size := by simp [hall.1]; omega
      have hrun := run_loadCells_list (P := P) w ⟨b, q + off, none⟩ ((vs.drop off).take i.size) (fun j u hu => by
        rw [Addr.add_lit]
        rw [List.getElem?_take] at hu
        split at hu
        · rw [List.getElem?_drop] at hu
          rw [Nat.add_assoc]
          exact hcell _ u hu
        · cases hu)
      rw [hl] at hrun
      simp only [loadVar, Sem.run_bind, run_isAgg hd, hag, Result.andThen_ok, if_true, hsz, hrun, Sem.run_pure]
    · cases hv
  · simp only [hag, partV, Bool.false_eq_true, if_false] at hv
    split at hv
    · rename_i x hx
      split at hv
      · rename_i h1
        simp only [Option.some.injEq] at hv
        subst hv
        obtain ⟨u, hu, hi'⟩ := hall.get hx
        refine ⟨u, ?_, hi'.resolve_left fun he => by subst he; simp [SV.one] at h1⟩
        simp only [loadVar, Sem.run_bind, run_isAgg hd, hag, Result.andThen_ok, Bool.false_eq_true, if_false, run_load, hcell off u hu]
      · cases hv
    · cases hv
theorem var_cells (hs : SimW n W A0 s a w β σ) {d T : Nat} {cs : List SV} (hm : s.mem d = .var T cs) : ∃ vs : List Value, w.heap[β d]? = some (.cells vs.toArray T (0, 0)) ∧ AllU (env A0 s w β σ) cs vs ∧ ∀ (j : Nat) u, vs[j]? = some u → w.cell? ⟨β d, 0 + j, none⟩ = some u := by
  have h := hs.mem d
  rw [hm] at h
  obtain ⟨_, vs, h1, h2⟩ := h
  refine ⟨vs, h1, h2, fun j u hu => ?_⟩
  rw [cell_of_row w (β d) (0 + j) _ T (0, 0) h1]
  simpa using hu
theorem run_loadVar (hs : SimW n W A0 s a w β σ) {T : TypeId} {d off T' : Nat} {cs : List SV} (hm : s.mem d = .var T' cs) {k : Option Nat} (hk : aggN P T = some k) {v : SV} (hv : partV cs off k = some v) :
    ∃ u, (loadVar T ⟨β d, off, none⟩).run P w = .ok u w ∧ Is (env A0 s w β σ) v u := by
  obtain ⟨vs, h1, h2, h3⟩ := var_cells hs hm
  have := load_cells (P := P) hk h2 h3 hv
  simpa using this

/-- What a slice holds, read. -/
theorem row_read (hs : SimW n W A0 s a w β σ) {x : SV} {r : Row SV} {v : Value} (hr : rowAt s.mem x = some r) (hi : Is (env A0 s w β σ) x v) :
    (Emp v ∧ r.len = 0 ∧ r.Wf) ∨ ∃ b q c, ∃ vs : List Value, v = .slice (some ⟨b, q, none⟩) r.len c ∧ r.len ≤ c ∧ b < w.heap.size ∧ r.Wf ∧ All (env A0 s w β σ) r.cells vs ∧ (∀ (j : Nat) u, vs[j]? = some u → w.cell? ⟨b, q + j, none⟩ = some u) := by
  have hrw : ∀ {v : Value}, Is (env A0 s w β σ) (.rw r) v → (Emp v ∧ r.len = 0 ∧ r.Wf) ∨ ∃ b q c, ∃ vs : List Value, v = .slice (some ⟨b, q, none⟩) r.len c ∧ r.len ≤ c ∧ b < w.heap.size ∧ r.Wf ∧ All (env A0 s w β σ) r.cells vs ∧ (∀ (j : Nat) u, vs[j]? = some u → w.cell? ⟨b, q + j, none⟩ = some u) := by
    intro v hi
    cases hi with
    | rw0 _ ad c h0 h1 =>
      refine .inl ⟨⟨ad, c, rfl, h1⟩, h0, ?_⟩
      cases r with
      | recs n l =>
        have := List.eq_nil_of_length_eq_zero h0
        subst this
        intro c hc; cases hc
      | _ => trivial
    | rw _ b q c vs h1 h2 h3 h4 h5 h6 h7 => exact .inr ⟨b, q, c, vs, rfl, h2, h4, h1, ⟨h5, h7⟩, h6⟩
  cases x <;> simp only [rowAt] at hr <;> try (cases hr; done)
  case rw r' => simp only [Option.some.injEq] at hr; subst hr; exact hrw hi
  case nn r' =>
    simp only [Option.some.injEq] at hr; subst hr
    cases hi with
    | nn _ ad l c h => exact hrw h
  case sl d g =>
    have hc := hs.mem d
    generalize hx : SV.sl d g = x at hi
    cases hi <;> cases hx
    rename_i cur ad l c h1 h2 h3
    have h1' : (s.mem d).ver = some cur := h1
    split at hr
    · rename_i g' e r' hm
      split at hr
      · rename_i hg
        simp only [Option.some.injEq] at hr; subst hr hg
        rw [hm] at h1' hc
        simp only [Cel.ver, Option.some.injEq] at h1'
        rw [h3 h1']
        obtain ⟨hw, hmn, vs, ho, hall⟩ := hc
        have ho' : ownsM w e r'.size (σ d).val r'.len vs := ho
        rcases ho'.2 with ⟨e1, e2⟩ | ⟨b, cap, cur', fz, e1, e3, ez, e4, e5, e6, e7⟩
        · exact .inl ⟨by show Emp (σ d).val; rw [e1]; exact emp_nil, e2, hw⟩
        · refine .inr ⟨b, 0, cap, vs, e1, e4, (Array.getElem?_eq_some_iff.1 e3).1, hw, hall, fun j u hu => ?_⟩
          have := ho'.cells (g := b) (by rw [e1]; rfl) j u hu
          simpa using this
      · cases hr
    · rename_i g' r' hm
      split at hr
      · rename_i hg
        simp only [Option.some.injEq] at hr; subst hr hg
        rw [hm] at h1' hc
        simp only [Cel.ver, Option.some.injEq] at h1'
        rw [h3 h1']
        exact hrw hc
      · cases hr
    · cases hr

theorem load_yld (hs : SimW n W A0 s a w β σ) {T : TypeId} {x : Operand} {x' : SO} (hx : cO x = some x') {d off T' : Nat} (ex : x'.ev s = .ptr d off) {cs : List SV} (hm : s.mem d = .var T' cs) {k : Option Nat} (hk : aggN P T = some k) {v : SV} (hv : partV cs off k = some v)
    (ho : o.op = .load T x) : Yld P A0 s a w β σ o v := by
  have ax := eval_of hs hx (by simp [ex])
  rw [ex] at ax
  have ax' : a.eval x = .pointer (some ⟨β d, off, none⟩) := ax.ptr_inv.1
  obtain ⟨u, h1, h3⟩ := run_loadVar (P := P) hs hm hk hv
  refine ⟨u, ?_, .inr h3⟩
  simp only [execOp, ho, ax', Instr.loadAt, Instr.sureAddr, Sem.run_bind, Sem.run_pure, Result.andThen_ok, h1]
theorem loadG_yld (hs : SimW n W A0 s a w β σ) {T : TypeId} {x : Operand} {x' : SO} (hx : cO x = some x') {g q : Nat} (ex : x'.ev s = .gp g q) {cs : List SV} (hg : glbAt g = some cs) {k : Option Nat} (hk : aggN P T = some k) {v : SV} (hv : partV cs q k = some v)
    (ho : o.op = .load T x) : Yld P A0 s a w β σ o v := by
  have ax := eval_of hs hx (by simp [ex])
  rw [ex] at ax
  have ax' := ax.gp_inv
  obtain ⟨hfl, _, hh⟩ := hs.glb g cs hg
  have hall : All (env A0 s w β σ) cs (cs.map litV) := ⟨by simp, fun j y u hy hu => by
    rw [List.getElem?_map, hy] at hu
    simp only [Option.map_some, Option.some.injEq] at hu
    subst hu
    have := (List.all_eq_true.1 hfl) y (List.mem_of_getElem? hy)
    cases y <;> simp only [flatG] at this <;> first | (cases this; done) | constructor⟩
  obtain ⟨u, h6, h7⟩ := load_cells (P := P) (w := w) (b := g) (q := 0) hk hall.u (fun j u hu => by rw [Nat.zero_add]; exact hh j u hu) hv
  refine ⟨u, ?_, .inr h7⟩
  simp only [Nat.zero_add] at h6
  simp only [execOp, ho, ax', Instr.loadAt, Instr.sureAddr, Sem.run_bind, Sem.run_pure, Result.andThen_ok, h6]
theorem loadF_yld (hs : SimW n W A0 s a w β σ) {T : TypeId} {x : Operand} {x' : SO} (hx : cO x = some x') {cs : List SV} (ex : x'.ev s = .fz cs) {k : Option Nat} (hk : aggN P T = some k) {v : SV} (hv : partV cs 0 k = some v)
    (ho : o.op = .load T x) : Yld P A0 s a w β σ o v := by
  have ax := eval_of hs hx (by simp [ex])
  rw [ex] at ax
  generalize hu : a.eval x = u at ax
  cases ax
  rename_i b q vs h1 h2 h4 h3 h5
  obtain ⟨u, h6, h7⟩ := load_cells (P := P) (w := w) hk (All.u (E := env A0 s w β σ) ⟨h3, h5⟩) h4 hv
  refine ⟨u, ?_, .inr h7⟩
  simp only [Nat.add_zero] at h6
  simp only [execOp, ho, hu, Instr.loadAt, Instr.sureAddr, Sem.run_bind, Sem.run_pure, Result.andThen_ok, h6]
theorem elem_addr (hs : SimW n W A0 s a w β σ) {d g sz i oo : Nat} {u : Value} {r : Row SV} (hi : Is (env A0 s w β σ) (.elem d g sz i oo) u) (hr : rowAt s.mem (.sl d g) = some r) (hlt : i < r.len) :
    ∃ b q c, ∃ vs : List Value, u = .pointer (some ⟨b, q + (i * sz + oo), none⟩) ∧ (σ d).val = .slice (some ⟨b, q, none⟩) r.len c ∧ r.Wf ∧ All (env A0 s w β σ) r.cells vs ∧ ∀ (j : Nat) u, vs[j]? = some u → w.cell? ⟨b, q + j, none⟩ = some u := by
  generalize hx : SV.elem d g sz i oo = x at hi
  cases hi <;> cases hx
  rename_i cur b p h1 h2 h3
  have hcur : g = cur := by
    have h1' : (s.mem d).ver = some cur := h1
    simp only [rowAt] at hr
    split at hr
    · rename_i g' e r' hm
      rw [hm] at h1'
      simp only [Cel.ver, Option.some.injEq] at h1'
      split at hr
      · rename_i hg; rw [hg]; exact h1'
      · cases hr
    · rename_i g' r' hm
      rw [hm] at h1'
      simp only [Cel.ver, Option.some.injEq] at h1'
      split at hr
      · rename_i hg; rw [hg]; exact h1'
      · cases hr
    · cases hr
  obtain ⟨c0, e1, e2⟩ := h3 hcur
  have hsl : Is (env A0 s w β σ) (.sl d g) (σ d).val := .sl d g cur _ _ _ h1 h2 (fun _ => rfl)
  rcases row_read hs hr hsl with ⟨_, e3, _⟩ | ⟨b', q, c, vs, e3, e4, e5, e6, e7, e8⟩
  · omega
  · have : (σ d).a = some ⟨b', q, none⟩ := by
      simp only [Sl.val, Value.slice.injEq] at e3
      exact e3.1
    have e1' : (σ d).a = some ⟨b, c0, none⟩ := e1
    rw [this] at e1'
    simp only [Option.some.injEq, Addr.mk.injEq, and_true] at e1'
    obtain ⟨rfl, rfl⟩ := e1'
    exact ⟨b', q, c, vs, by rw [e2], e3, e6, e7, e8⟩
theorem loadE_yld (hs : SimW n W A0 s a w β σ) {T : TypeId} {x : Operand} {x' : SO} (hx : cO x = some x') {d g i oo : Nat} {r : Row SV} (ex : x'.ev s = .elem d g r.size i oo) (hr : rowAt s.mem (.sl d g) = some r) (hlt : i < r.len) {k : Option Nat} (hk : aggN P T = some k) {v : SV} (hv : partV (r.get i) oo k = some v)
    (ho : o.op = .load T x) : Yld P A0 s a w β σ o v := by
  have ax := eval_of hs hx (by simp [ex])
  rw [ex] at ax
  obtain ⟨b, q, c, vs, e1, e2, e3, e4, e5⟩ := elem_addr hs ax hr hlt
  obtain ⟨g1, g2⟩ := Row.get_eq e3 hlt
  have hp := e4.part (i * r.size) r.size
  rw [← g1] at hp
  obtain ⟨u, h6, h7⟩ := load_cells (P := P) (w := w) (b := b) (q := q + i * r.size) hk hp.u (fun j u hu => by
    rw [List.getElem?_take] at hu
    split at hu
    · rw [List.getElem?_drop] at hu
      rw [Nat.add_assoc]
      exact e5 _ u hu
    · cases hu) hv
  refine ⟨u, ?_, .inr h7⟩
  rw [Nat.add_assoc] at h6
  simp only [execOp, ho, e1, Instr.loadAt, Instr.sureAddr, Sem.run_bind, Sem.run_pure, Result.andThen_ok, h6]
theorem len_yld {c : Call} (ho : o.op = .call c) (hc : c.callee = .builtin .len) {t : TypeId} {x : Operand} (ht : c.argTypes.toList = [t]) (hx : c.args.toList = [x]) {L : Nat}
    (hv : (∃ e b cap, P.underlying t = some (.slice e) ∧ a.eval x = .slice b L cap) ∨ (∃ v : ByteArray, P.underlying t = some .string ∧ a.eval x = .string v ∧ v.size = L)) :
    Yld P A0 s a w β σ o (.int .i64 L) := by
  have ha : c.args = #[x] := by rw [← Array.toArray_toList (xs := c.args), hx]
  have hat : c.argTypes = #[t] := by rw [← Array.toArray_toList (xs := c.argTypes), ht]
  refine ⟨.int .i64 L, ?_, .inr (.int _ _)⟩
  rcases hv with ⟨e, b, cap, h1, h2⟩ | ⟨v, h1, h2, h3⟩
  · simp [execOp, ho, resolve, hc, ha, hat, invoke, builtin, Builtin.len_, run_underlying h1, h2, goInt]
  · simp [execOp, ho, resolve, hc, ha, hat, invoke, builtin, Builtin.len_, run_underlying h1, h2, h3, goInt]
theorem isnil_yld (hs : SimW n W A0 s a w β σ) {neg : Bool} {T T' e : TypeId} {x y : Operand} {x' : SO} (hx : cO x = some x') (hy : cO y = some (.c .nil)) (hT : P.underlying T = some (.slice e)) (hnu : x'.ev s ≠ .unk) {b : Bool}
    (hb : (x'.ev s = .nil ∧ b = true) ∨ ((∃ r, x'.ev s = .nn r) ∧ b = false) ∨ ((∃ r, rowAt s.mem (x'.ev s) = some r ∧ 0 < r.len) ∧ b = false))
    (ho : o.op = .binOp (if neg then .neq else .eql) T x y T') : Yld P A0 s a w β σ o (.bool (if neg then !b else b)) := by
  have ax := eval_of hs hx hnu
  have ay : a.eval y = .slice none 0 0 := (eval_of (y := .c .nil) hs hy (by simp [SO.ev])).nil_inv
  obtain ⟨ad, l, c, hv, hnil⟩ : ∃ ad l c, a.eval x = .slice ad l c ∧ ad.isNone = b := by
    rcases hb with ⟨h, rfl⟩ | ⟨⟨r, h⟩, rfl⟩ | ⟨⟨r, h, h0⟩, rfl⟩
    · rw [h] at ax; exact ⟨_, _, _, ax.nil_inv, rfl⟩
    · rw [h] at ax
      generalize hu : a.eval x = u at ax
      cases ax
      exact ⟨_, _, _, rfl, rfl⟩
    · rcases row_read hs h ax with ⟨_, h1, _⟩ | ⟨b', q, c, vs, h1, _⟩
      · omega
      · exact ⟨_, _, _, h1, rfl⟩
  subst hnil
  have heq : (binOp .eql T (.slice ad l c) (.slice none 0 0)).run P w = .ok (.bool ad.isNone) w := by
    simp only [binOp, Sem.run_bind, run_equal_slice_nil w T e ad l c hT, Result.andThen_ok, Sem.run_pure]
  cases neg
  · refine ⟨.bool ad.isNone, ?_, .inr (.bool _)⟩
    simp only [execOp, ho, Bool.false_eq_true, if_false, hv, ay, eqGuard, Bool.not_true, Sem.run_bind, Sem.run_pure, Result.andThen_ok, heq]
  · refine ⟨.bool (!ad.isNone), ?_, .inr (.bool _)⟩
    simp only [execOp, ho, if_true, hv, ay, eqGuard, Bool.not_true, Bool.false_eq_true, if_false, Sem.run_bind, Sem.run_pure, Result.andThen_ok, run_neq_slice_nil w T e ad l c hT]
theorem idx_run {t e : TypeId} {x y : Operand} {b q : Nat} {len c : Nat} {k : IntKind} {i : Int} (ax : a.eval x = .slice (some ⟨b, q, none⟩) len c) (ay : a.eval y = .int k i) (hu : P.underlying t = some (.slice e)) {j : TypeInfo} (hj : P.info? e = some j) (hi : 0 ≤ i ∧ i < len) (hsz : 0 < j.size) (ho : o.op = .indexAddr t x y) :
    (execOp a.eval o).run P w = .ok (.value (.pointer (some ⟨b, q + i.toNat * j.size, none⟩))) w := by
  have hse : (sizeOf e).run P w = .ok j.size w := by simp [sizeOf, typeInfo, hj]
  have hne : j.size ≠ 0 := by omega
  simp [execOp, ho, ax, ay, Instr.indexAt, asIntOf, run_underlying hu, hi.1, hi.2, hse, Addr.add_lit, hne]
theorem idx_yld (hs : SimW n W A0 s a w β σ) {t e : TypeId} {x y : Operand} {x' y' : SO} (hx : cO x = some x') (hy : cO y = some y') {r0 : Row SV} (hu : P.underlying t = some (.slice e)) (hr0 : row0 P e = some r0) {k : IntKind} {i : Int} (ey : y'.ev s = .int k i) {r : Row SV} (hr : rowAt s.mem (x'.ev s) = some r)
    (hsz : r.size = r0.size) (hi : 0 ≤ i ∧ i < r.len) (ho : o.op = .indexAddr t x y) : (∀ d g, x'.ev s = .sl d g → Yld P A0 s a w β σ o (.elem d g r.size i.toNat 0)) ∧ (x'.ev s = .rw r → Yld P A0 s a w β σ o (.fz (r.get i.toNat))) := by
  obtain ⟨j, hj, hjs, hj0, _⟩ := row0_spec hr0
  have hne : x'.ev s ≠ .unk := by intro he; rw [he] at hr; simp [rowAt] at hr
  have ax := eval_of hs hx hne
  have ay := eval_of hs hy (by simp [ey])
  rw [ey] at ay
  rcases row_read hs hr ax with ⟨_, e3, _⟩ | ⟨b, q, c, vs, e3, e4, e5, e6, e7, e8⟩
  · omega
  have hrun := idx_run (P := P) (w := w) e3 ay.int_inv hu hj hi hj0 ho
  rw [hjs, ← hsz] at hrun
  refine ⟨fun d g hd => ⟨_, hrun, .inr ?_⟩, fun hd => ⟨_, hrun, .inr ?_⟩⟩
  · rw [hd] at ax
    generalize hv : a.eval x = u at ax e3
    generalize hxx : SV.sl d g = xx at ax
    cases ax <;> cases hxx
    rename_i cur ad l cc h1 h2 h3
    refine .elem d g r.size i.toNat 0 cur b _ h1 h2 fun hg => ?_
    have := h3 hg
    rw [e3] at this
    simp only [Sl.val, Value.slice.injEq] at this
    exact ⟨q, this.1.symm, by omega⟩
  · rw [hd] at ax
    have hlt : i.toNat < r.len := by omega
    obtain ⟨g1, g2⟩ := Row.get_eq e6 hlt
    have hp := e7.part (i.toNat * r.size) r.size
    rw [← g1] at hp
    have hA : ¬ (env A0 s w β σ).A b := by
      generalize hv : a.eval x = u at ax e3
      exact ax.avoid e3 (by omega)
    refine .fz _ b _ _ hA e5 hp.1 (fun j u hu => ?_) hp.2
    rw [List.getElem?_take] at hu
    split at hu
    · rw [List.getElem?_drop] at hu
      rw [Nat.add_assoc]
      exact e8 _ u hu
    · cases hu

/-! ### New labels, labels turned -/
theorem new_var (hs : SimW n W A0 s a w β σ) (lab T : Nat) (cs : List SV) (vs : List Value) (hf : (s.mem lab).isFresh = true) (h1 : AllU (env A0 s w β σ) cs vs) :
    ∃ β' σ', SimW n W A0 (s.setm lab (.var T cs)) a (w.alloc (.cells vs.toArray T)) β' σ' ∧ Is (env A0 (s.setm lab (.var T cs)) (w.alloc (.cells vs.toArray T)) β' σ') (.ptr lab 0) (.pointer (some ⟨w.heap.size, 0, none⟩)) := by
  have hv : (s.mem lab).ver = none := Cel.ver_fresh.2 hf
  have := hs.one lab (.var T cs) (w.alloc (.cells vs.toArray T)) w.heap.size (σ lab) (hs.bel.below ((Below.refl _ _).alloc (Nat.le_refl _) _)) (fun c hc => by rw [hv] at hc; cases hc) (fun b hb _ => heap_alloc_old w _ hb) (by simp)
    (fun b hb => by simp [wblk, upd_same] at hb; subst hb; exact .inr (Nat.le_refl _))
    (fun hle => ⟨by simp only [env, upd_same]; exact .inl hs.bel.size, vs, by simp only [env, upd_same]; exact heap_alloc_new w _, h1.mono hle fun _ _ => trivial⟩)
  refine ⟨_, _, this.2, ?_⟩
  have h := Is.ptr (E := env A0 (s.setm lab (.var T cs)) (w.alloc (.cells vs.toArray T)) (upd β lab w.heap.size) (upd σ lab (σ lab))) lab 0 0 (by simp [env, St.setm, setM, Cel.ver])
  simpa only [env, upd_same] using h
theorem new_row (hs : SimW n W A0 s a w β σ) (lab e : Nat) (r : Row SV) (vs : List Value) (sd : Sl) {w' : World} (hf : (s.mem lab).isFresh = true) (hb : Below w.heap.size w w') (hw : r.Wf) (hbk : ∀ b, sd.val.ownBlock = some b → w.heap.size ≤ b) (ho : ownsM w' e r.size sd.val r.len vs)
    (h1 : (env A0 s w β σ).le (env A0 (s.setm lab (.row 0 e r)) w' (upd β lab (β lab)) (upd σ lab sd)) (fun _ => True) → All (env A0 (s.setm lab (.row 0 e r)) w' (upd β lab (β lab)) (upd σ lab sd)) r.cells vs) :
    (env A0 s w β σ).le (env A0 (s.setm lab (.row 0 e r)) w' (upd β lab (β lab)) (upd σ lab sd)) (fun _ => True) ∧
    SimW n W A0 (s.setm lab (.row 0 e r)) a w' (upd β lab (β lab)) (upd σ lab sd) ∧ Is (env A0 (s.setm lab (.row 0 e r)) w' (upd β lab (β lab)) (upd σ lab sd)) (.sl lab 0) sd.val := by
  have hv : (s.mem lab).ver = none := Cel.ver_fresh.2 hf
  have hno : wblk β σ lab (s.mem lab) = none := by cases hm : s.mem lab <;> simp_all [Cel.isFresh, wblk]
  have := hs.one lab (.row 0 e r) w' (β lab) sd (hs.bel.below hb) (fun c hc => by rw [hv] at hc; cases hc) (fun b hb' _ => hb.block b hb') hb.size
    (fun b hb' => by
      simp only [wblk, upd_same] at hb'
      exact .inr (hbk b hb'))
    (fun hle => ⟨hw, fun b hb' => by simp only [env, upd_same] at hb'; exact .inl (Nat.le_trans hs.bel.size (hbk b hb')), vs, by simp only [env, upd_same]; exact ho, h1 hle⟩)
  refine ⟨this.1, this.2, ?_⟩
  exact .sl lab 0 0 _ _ _ (by simp [env, St.setm, setM, Cel.ver]) (Nat.le_refl _) (fun _ => by simp only [env, upd_same]; rfl)
/-- A slice of our own is let go. -/
theorem freeze (hs : SimW n W A0 s a w β σ) {d g e : Nat} {r : Row SV} (hm : s.mem d = .row g e r) : (env A0 s w β σ).le (env A0 (s.setm d (.frow g r)) w β σ) (fun _ => True) ∧ SimW n W A0 (s.setm d (.frow g r)) a w β σ := by
  have hself : ∀ {α : Type} (f : Nat → α), upd f d (f d) = f := fun f => by funext t; by_cases h : t = d <;> simp [upd, h]
  have hc := hs.mem d
  rw [hm] at hc
  have h := hs.one d (.frow g r) w (β d) (σ d) hs.bel (fun c hc => by rw [hm] at hc; simp [Cel.ver] at hc; subst hc; exact ⟨g, rfl, Nat.le_refl _, rfl, fun _ => rfl⟩) (fun _ _ _ => rfl) (Nat.le_refl _) (fun b hb => by simp [wblk] at hb)
  rw [hself, hself] at h
  refine h fun hle => ?_
  obtain ⟨hw, hmn, vs, ho, hall⟩ := hc
  have ho' : ownsM w e r.size (σ d).val r.len vs := ho
  show Is (env A0 (s.setm d (.frow g r)) w β σ) (.rw r) (σ d).val
  rcases ho'.2 with ⟨e1, e2⟩ | ⟨b, cap, cur, fz, e1, e3, ez, e4, e5, e6, e7⟩
  · rw [e1]; exact emp_nil.is e2
  · rw [e1]
    have hall' := All.mono hle hall fun _ _ => trivial
    refine .rw r b 0 cap vs hw e4 ?_ (Array.getElem?_eq_some_iff.1 e3).1 hall'.1 (fun j u hu => ?_) hall'.2
    · rintro (hA | ⟨t, ht⟩)
      · exact hs.apart (hmn b (by simp only [env, e1]; rfl)) hA
      · by_cases htd : t = d
        · subst htd; simp [St.setm, setM, wblk] at ht
        · simp only [St.setm, setM, if_neg htd] at ht
          exact hs.sep d t b (Ne.symm htd) (by rw [hm]; simp only [wblk, e1]; rfl) ht
    · have := ho'.cells (g := b) (by rw [e1]; rfl) j u hu
      simpa [env] using this
end
end Go.Proofs.Ytgklfolmlcfjgaa.Y
