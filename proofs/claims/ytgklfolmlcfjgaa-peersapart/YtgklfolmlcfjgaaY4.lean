/- The second walk is sound: the third part: the rest of the operations that look at no memory; all of them in one. -/
import Derived.Test.YtgklfolmlcfjgaaY3
import Derived.Great.BuildSlice
import Derived.Laws.Strings
import Derived.Laws.Strings2
import Derived.Laws.Strings3
import Derived.Laws.Cover1
import Derived.Laws.Concat
namespace Go.Proofs.Ytgklfolmlcfjgaa.Y
open Go.RowKit
set_option linter.unusedSimpArgs false
set_option linter.unusedVariables false
section
variable {P : Program} {n : Nat} {W : Wd} {A0 : Nat → Prop} {s : St} {a : Act} {w : World} {β : Nat → Nat} {σ : Nat → Sl} {o : Oper} {K : Act → World → Prop} {Q : Exit → Act → World → Prop}

theorem part_run {E : Env} {t : TypeId} {k : Option Nat} (h : aggN P t = some k) {cs : List SV} {vs : List Value} (ha : AllU E cs vs) {off : Nat} {v : SV} (hv : partV cs off k = some v) :
    ∃ u, (part t vs.toArray off).run P w = .ok u w ∧ Is E v u := by
  obtain ⟨d, i, hd, hi, rfl⟩ := aggN_spec h
  by_cases hag : isAggD d = true
  · simp only [hag, if_true, partV] at hv
    split at hv
    · rename_i hle
      simp only [Option.some.injEq] at hv
      subst hv
      have hp := (ha.part off i.size).all hle.2
      refine ⟨.agg ((vs.drop off).take i.size).toArray, ?_, .agg _ _ hp.1 hp.2⟩
      have hsz : (sizeOf t).run P w = .ok i.size w := by simp [sizeOf, typeInfo, hi]
      simp only [part, Sem.run_bind, run_isAgg hd, hag, Result.andThen_ok, if_true, hsz, Sem.run_pure]
      congr 2
      simp
    · cases hv
  · simp only [hag, partV, Bool.false_eq_true, if_false] at hv
    split at hv
    · rename_i u hu'
      split at hv
      · rename_i h1
        simp only [Option.some.injEq] at hv
        subst hv
        obtain ⟨q, hq, hi'⟩ := ha.get hu'
        refine ⟨q, ?_, hi'.resolve_left fun he => by subst he; simp [SV.one] at h1⟩
        simp [part, run_isAgg hd, hag, hq]
      · cases hv
    · cases hv
theorem fld_yld (hs : SimW n W A0 s a w β σ) {T : TypeId} {x : Operand} {x' : SO} (hx : cO x = some x') {f : Nat} {cs : List SV} (ex : x'.ev s = .agg cs) {fs : Array Field} (hT : P.underlying T = some (.struct fs)) {g : Field} (hg : fs[f]? = some g) {k : Option Nat} (hk : aggN P g.type = some k)
    {v : SV} (hv : partV cs g.offset k = some v) (ho : o.op = .field T x f) : Yld P A0 s a w β σ o v := by
  have ax := eval_of hs hx (by simp [ex])
  rw [ex] at ax
  obtain ⟨vs, ax', hall⟩ := ax.agg_inv
  obtain ⟨u, h1, h2⟩ := part_run (P := P) (w := w) hk hall.u hv
  exact ⟨u, by simp only [execOp, ho, ax', Instr.field, Sem.run_bind, run_underlying hT, Result.andThen_ok, hg, asAgg, Sem.run_pure, h1], .inr h2⟩
theorem ext_yld (hs : SimW n W A0 s a w β σ) {x : Operand} {x' : SO} (hx : cO x = some x') {i : Nat} {vs : List SV} (ex : x'.ev s = .tup vs) {v : SV} (hv : vs[i]? = some v) (ho : o.op = .extract x i) : Yld P A0 s a w β σ o v := by
  have ax := eval_of hs hx (by simp [ex])
  rw [ex] at ax
  obtain ⟨us, ax', hall⟩ := ax.tup_inv
  obtain ⟨u, hu, hi⟩ := hall.get hv
  refine ⟨u, ?_, .inr hi⟩
  have : us.toArray[i]? = some u := by simp [hu]
  simp only [execOp, ho, ax', Instr.extract, this, Sem.run_bind, Sem.run_pure, Result.andThen_ok]
theorem parts_of (hs : SimW n W A0 s a w β σ) (pl : Nat → Option (Nat × Nat)) (cp : Nat × Operand → Option (Nat × Nat × SO)) (hcp : ∀ p q, cp p = some q → cO p.2 = some q.2.2 ∧ pl p.1 = some (q.1, q.2.1)) : ∀ (ps : List (Nat × Operand)) (qs : List (Nat × Nat × SO)), ps.mapM cp = some qs → (∀ q ∈ qs, (q.2.2.ev s).cells.all SV.one = true) →
    ∃ L : List (Nat × Nat × Nat × SV × Value), (qs.map fun q => (q.1, q.2.1)) = (L.map fun p => (p.2.1, p.2.2.1)) ∧ ((qs.map (·.2.2)).map (SO.ev s)) = (L.map fun p => p.2.2.2.1) ∧
      (ps.map fun p => (p.1, a.eval p.2)) = (L.map fun p => (p.1, p.2.2.2.2)) ∧ (∀ p ∈ L, pl p.1 = some (p.2.1, p.2.2.1)) ∧ ∀ p ∈ L, Is (env A0 s w β σ) p.2.2.2.1 p.2.2.2.2
  | [], qs, h, _ => by simp at h; subst h; exact ⟨[], by simp⟩
  | (i, x) :: ps, qs, h, hq => by
    simp only [List.mapM_cons, Option.bind_eq_bind, Option.pure_def, Option.bind_eq_some_iff] at h
    obtain ⟨⟨o, m, y⟩, h1, qs', h2, he⟩ := h
    simp only [Option.some.injEq] at he
    subst he
    obtain ⟨L, e1, e2, e3, e4, e5⟩ := parts_of hs pl cp hcp ps qs' h2 (fun q hq' => hq q (List.mem_cons_of_mem _ hq'))
    obtain ⟨hy, hpl⟩ := hcp _ _ h1
    have hone := hq _ (List.mem_cons_self ..)
    have hev := eval_of hs hy (ne_unk_cells hone)
    refine ⟨(i, o, m, y.ev s, a.eval x) :: L, by simp [e1], by simp [e2], by simp [e3], fun p hp => ?_, fun p hp => ?_⟩
    · rcases List.mem_cons.1 hp with rfl | hp
      · exact hpl
      · exact e4 p hp
    · rcases List.mem_cons.1 hp with rfl | hp
      · exact hev
      · exact e5 p hp
theorem places_of : ∀ (fs : List Field), (fs.all fun f => (P.info? f.type).isSome) = true → ∃ pl : List (Nat × Nat), fs.mapM (fun f => (P.info? f.type).map fun i => (f.offset, i.size)) = some pl ∧
    ∀ i : Nat, pl[i]? = fs[i]?.bind fun (f : Field) => (P.info? f.type).map fun j => (f.offset, j.size)
  | [], _ => ⟨[], by simp, by simp⟩
  | f :: fs, h => by
    simp only [List.all_cons, Bool.and_eq_true] at h
    obtain ⟨pl, h1, h2⟩ := places_of fs h.2
    obtain ⟨i, hi⟩ := Option.isSome_iff_exists.1 h.1
    refine ⟨(f.offset, i.size) :: pl, by simp [hi, h1], fun j => ?_⟩
    cases j with
    | zero => simp [hi]
    | succ j => simpa using h2 j
theorem cPart_spec {fs : Array Field} {p : Nat × Operand} {q : Nat × Nat × SO} (h : cPart P fs p = some q) : cO p.2 = some q.2.2 ∧ place P fs p.1 = some (q.1, q.2.1) := by
  unfold cPart at h
  split at h
  · rename_i o' m' y' hpl hy
    simp only [Option.some.injEq] at h
    subst h
    exact ⟨hy, hpl⟩
  · cases h
theorem build_yld (hs : SimW n W A0 s a w β σ) {T : TypeId} {ps : Array (Nat × Operand)} {fs : Array Field} {z : List SV} {qs : List (Nat × Nat × SO)} (ho : o.op = .build T ps) (hT : P.underlying T = some (.struct fs))
    (hz : ((P.info? T).bind (·.zero)).bind cellsSV = some z) (hall : (fs.toList.all fun f => (P.info? f.type).isSome) = true) (hq : ps.toList.mapM (cPart P fs) = some qs) {cs : List SV}
    (hf : fillP z (qs.map fun p => (p.1, p.2.1)) ((qs.map (·.2.2)).map (SO.ev s)) = some cs) : Yld P A0 s a w β σ o (.agg cs) := by
  have hne := fillP_ne _ _ _ _ hf
  obtain ⟨L, e1, e2, e3, e4, e5⟩ := parts_of hs (place P fs) (cPart P fs) (fun p q h => cPart_spec h) ps.toList qs hq (fun q hq' => hne _ (List.mem_map.2 ⟨q.2.2, List.mem_map.2 ⟨q, hq', rfl⟩, rfl⟩))
  obtain ⟨it, zv, hi, hzv, hcells, hzl⟩ := zero_of (P := P) (E := env A0 s w β σ) hz
  obtain ⟨pl, hpl, hget⟩ := places_of (P := P) fs.toList hall
  rw [e1, e2] at hf
  obtain ⟨cv, hfill, hcv⟩ := fill_of (fun i => pl.toArray[i]?) L z cs zv.cells.toList (fun p hp => by
    have := e4 p hp
    simp only [place] at this
    rw [List.getElem?_toArray, hget]
    simpa using this) e5 hcells hf
  have hb : P.built T (ps.toList.map fun p => (p.1, a.eval p.2)) = some cv.toArray := by
    unfold Program.built
    simp only [hi, hT, hzv, hpl, e3]
    simpa using hfill
  refine ⟨.agg cv.toArray, ?_, .inr (.agg _ _ hcv.1 hcv.2)⟩
  have hr := run_build (P := P) w T (ps.map fun (p : Nat × Operand) => (p.1, a.eval p.2)) _ (by simpa using hb)
  simp only [execOp, ho, Sem.run_bind]
  rw [show (Array.map (fun x : Nat × Operand => match x with | (i, x) => (i, a.eval x)) ps) = ps.map fun (p : Nat × Operand) => (p.1, a.eval p.2) from rfl, hr]
  rfl
theorem build_yldA (hs : SimW n W A0 s a w β σ) {T e : TypeId} {ps : Array (Nat × Operand)} {k : Nat} {j : TypeInfo} {z : List SV} {qs : List (Nat × Nat × SO)} (ho : o.op = .build T ps) (hT : P.underlying T = some (.array k e))
    (hz : ((P.info? T).bind (·.zero)).bind cellsSV = some z) (hj : P.info? e = some j) (hq : ps.toList.mapM (cLit j.size) = some qs) {cs : List SV}
    (hf : fillP z (qs.map fun p => (p.1, p.2.1)) ((qs.map (·.2.2)).map (SO.ev s)) = some cs) : Yld P A0 s a w β σ o (.agg cs) := by
  have hne := fillP_ne _ _ _ _ hf
  obtain ⟨L, e1, e2, e3, e4, e5⟩ := parts_of hs (fun i => some (i * j.size, j.size)) (cLit j.size) (fun p q h => by
    unfold cLit at h
    split at h
    · rename_i y hy
      simp only [Option.some.injEq] at h
      subst h
      exact ⟨hy, rfl⟩
    · cases h) ps.toList qs hq (fun q hq' => hne _ (List.mem_map.2 ⟨q.2.2, List.mem_map.2 ⟨q, hq', rfl⟩, rfl⟩))
  obtain ⟨it, zv, hi, hzv, hcells, hzl⟩ := zero_of (P := P) (E := env A0 s w β σ) hz
  rw [e1, e2] at hf
  obtain ⟨cv, hfill, hcv⟩ := fill_of (fun i => some (i * j.size, j.size)) L z cs zv.cells.toList (fun p hp => e4 p hp) e5 hcells hf
  have hb : P.built T (ps.toList.map fun p => (p.1, a.eval p.2)) = some cv.toArray := by
    unfold Program.built
    simp only [hi, hT, hzv, hj, e3]
    simpa using hfill
  refine ⟨.agg cv.toArray, ?_, .inr (.agg _ _ hcv.1 hcv.2)⟩
  have hr := run_build (P := P) w T (ps.map fun (p : Nat × Operand) => (p.1, a.eval p.2)) _ (by simpa using hb)
  simp only [execOp, ho, Sem.run_bind]
  rw [show (Array.map (fun x : Nat × Operand => match x with | (i, x) => (i, a.eval x)) ps) = ps.map fun (p : Nat × Operand) => (p.1, a.eval p.2) from rfl, hr]
  rfl
theorem mapM_cO (hs : SimW n W A0 s a w β σ) : ∀ (xs : List Operand) (ys : List SO), xs.mapM cO = some ys → (∀ y ∈ ys, y.ev s ≠ .unk) → All (env A0 s w β σ) (ys.map (SO.ev s)) (xs.map a.eval)
  | [], ys, h, _ => by simp at h; subst h; exact All.nil
  | x :: xs, ys, h, h1 => by
    simp only [List.mapM_cons, Option.bind_eq_bind, Option.pure_def, Option.bind_eq_some_iff] at h
    obtain ⟨y, hy, ys', hys, he⟩ := h
    simp only [Option.some.injEq] at he
    subst he
    exact All.cons (eval_of hs hy (h1 y (List.mem_cons_self ..))) (mapM_cO hs xs ys' hys fun y hy => h1 y (List.mem_cons_of_mem _ hy))
theorem mkf_yld (hs : SimW n W A0 s a w β σ) {f : Nat} {first caps : Array Operand} {ys : List SO} (hfi : first.isEmpty = true) (hx : caps.toList.mapM cO = some ys) (h1 : (ys.map (SO.ev s)).all SV.one = true) (ho : o.op = .makeFunc (.func f) first caps) : Yld P A0 s a w β σ o (.clo f (ys.map (SO.ev s))) := by
  have hall := mapM_cO hs caps.toList ys hx fun y hy he => by
    have := (List.all_eq_true.1 h1) (y.ev s) (List.mem_map.2 ⟨y, hy, rfl⟩)
    rw [he] at this; simp [SV.one] at this
  refine ⟨.func (.func f) #[] (caps.toList.map a.eval).toArray, ?_, .inr (.clo _ _ _ hall.1 hall.2)⟩
  have he : first = #[] := by simpa using hfi
  subst he
  rw [show (caps.toList.map a.eval).toArray = caps.map a.eval by rw [← Array.toList_map, Array.toArray_toList]]
  simp [execOp, ho, Instr.makeFunc]
theorem mapM_two {l : List Operand} {x' y' : SO} (h : l.mapM cO = some [x', y']) : ∃ x y, l = [x, y] ∧ cO x = some x' ∧ cO y = some y' := by
  match l, h with
  | [], h => simp at h
  | [x], h =>
    simp only [List.mapM_cons, List.mapM_nil, Option.bind_eq_bind, Option.pure_def, Option.bind_some, Option.bind_eq_some_iff] at h
    obtain ⟨y, _, he⟩ := h
    simp at he
  | [x, y], h =>
    simp only [List.mapM_cons, List.mapM_nil, Option.bind_eq_bind, Option.pure_def, Option.bind_some, Option.bind_eq_some_iff] at h
    obtain ⟨a, h1, b, ⟨c, h2, h3⟩, he⟩ := h
    simp only [Option.some.injEq] at h3
    subst h3
    simp only [Option.some.injEq, List.cons.injEq, and_true] at he
    obtain ⟨rfl, rfl⟩ := he
    exact ⟨x, y, rfl, h1, h2⟩
  | x :: y :: z :: l, h =>
    simp only [List.mapM_cons, Option.bind_eq_bind, Option.pure_def, Option.bind_eq_some_iff] at h
    obtain ⟨a, _, b, ⟨c, _, d, ⟨e, _, f, _, he1⟩, he2⟩, he3⟩ := h
    simp only [Option.some.injEq] at he1 he2 he3
    subst he1 he2
    simp at he3
theorem mx_yld (hs : SimW n W A0 s a w β σ) {m : Bool} {c : Call} (ho : o.op = .call c) (hc : c.callee = .builtin (if m then .max else .min)) {x' y' : SO} (hx : c.args.toList.mapM cO = some [x', y']) {k : IntKind} {p q : Int} (ex : x'.ev s = .int k p) (ey : y'.ev s = .int k q) :
    Yld P A0 s a w β σ o (.int k (if m then (if q > p then q else p) else (if q < p then q else p))) := by
  obtain ⟨x, y, hl, h1, h2⟩ := mapM_two hx
  have ha : c.args = #[x, y] := by rw [← Array.toArray_toList (xs := c.args), hl]
  have ax := eval_of hs h1 (by simp [ex])
  have ay := eval_of hs h2 (by simp [ey])
  rw [ex] at ax; rw [ey] at ay
  have ax' := ax.int_inv
  have ay' := ay.int_inv
  cases m
  · refine ⟨.int k (if q < p then q else p), ?_, .inr (.int _ _)⟩
    simp only [execOp, ho, resolve, hc, ha, Bool.false_eq_true, if_false, invoke, builtin, Sem.run_bind, Sem.run_pure, Result.andThen_ok, List.map_toArray, List.map_cons, List.map_nil, ax', ay', run_min_int2]
  · refine ⟨.int k (if q > p then q else p), ?_, .inr (.int _ _)⟩
    simp only [execOp, ho, resolve, hc, ha, if_true, invoke, builtin, Sem.run_bind, Sem.run_pure, Result.andThen_ok, List.map_toArray, List.map_cons, List.map_nil, ax', ay', run_max_int2]

theorem mapM_three {l : List Operand} {x' y' z' : SO} (h : l.mapM cO = some [x', y', z']) : ∃ x y z, l = [x, y, z] ∧ cO x = some x' ∧ cO y = some y' ∧ cO z = some z' := by
  match l, h with
  | [], h => simp at h
  | x :: l, h =>
    simp only [List.mapM_cons, Option.bind_eq_bind, Option.pure_def, Option.bind_eq_some_iff] at h
    obtain ⟨x1, hx, l1, hl, he⟩ := h
    simp only [Option.some.injEq, List.cons.injEq] at he
    obtain ⟨rfl, rfl⟩ := he
    obtain ⟨y, z, rfl, hy, hz⟩ := mapM_two hl
    exact ⟨x, y, z, rfl, hx, hy, hz⟩
theorem mx3_yld (hs : SimW n W A0 s a w β σ) {m : Bool} {c : Call} (ho : o.op = .call c) (hc : c.callee = .builtin (if m then .max else .min)) {x' y' z' : SO} (hx : c.args.toList.mapM cO = some [x', y', z']) {k : IntKind} {p q r : Int} (ex : x'.ev s = .int k p) (ey : y'.ev s = .int k q) (ez : z'.ev s = .int k r) :
    Yld P A0 s a w β σ o (.int k (if m then (if r > (if q > p then q else p) then r else (if q > p then q else p)) else (if r < (if q < p then q else p) then r else (if q < p then q else p)))) := by
  obtain ⟨x, y, z, hl, h1, h2, h3⟩ := mapM_three hx
  have ha : c.args = #[x, y, z] := by rw [← Array.toArray_toList (xs := c.args), hl]
  have ax := eval_of hs h1 (by simp [ex])
  have ay := eval_of hs h2 (by simp [ey])
  have az := eval_of hs h3 (by simp [ez])
  rw [ex] at ax; rw [ey] at ay; rw [ez] at az
  have ax' := ax.int_inv
  have ay' := ay.int_inv
  have az' := az.int_inv
  cases m
  · refine ⟨.int k (if r < (if q < p then q else p) then r else (if q < p then q else p)), ?_, .inr (.int _ _)⟩
    simp only [execOp, ho, resolve, hc, ha, Bool.false_eq_true, if_false, invoke, builtin, Sem.run_bind, Sem.run_pure, Result.andThen_ok, List.map_toArray, List.map_cons, List.map_nil, ax', ay', az', Builtin.min_, List.foldlM_cons, List.foldlM_nil, Builtin.min2]
  · refine ⟨.int k (if r > (if q > p then q else p) then r else (if q > p then q else p)), ?_, .inr (.int _ _)⟩
    simp only [execOp, ho, resolve, hc, ha, if_true, invoke, builtin, Sem.run_bind, Sem.run_pure, Result.andThen_ok, List.map_toArray, List.map_cons, List.map_nil, ax', ay', az', Builtin.max_, List.foldlM_cons, List.foldlM_nil, Builtin.max2]
/-! Strings. -/
theorem bins_yld (hs : SimW n W A0 s a w β σ) {op : BinOp} {T T' : TypeId} {x y : Operand} {x' y' : SO} (hx : cO x = some x') (hy : cO y = some y') (hT : P.underlying T = some .string) {p q : List UInt8} (ex : x'.ev s = .str p) (ey : y'.ev s = .str q) {c : Prop} {v : SV} (hb : binS op p q = some (c, v)) (hc : c)
    (ho : o.op = .binOp op T x y T') : Yld P A0 s a w β σ o v := by
  have ax := eval_of hs hx (by simp [ex])
  have ay := eval_of hs hy (by simp [ey])
  rw [ex] at ax; rw [ey] at ay
  have ax' := ax.str_inv
  have ay' := ay.str_inv
  cases op <;> simp only [binS] at hb <;> (try (cases hb; done)) <;> simp only [Option.some.injEq, Prod.mk.injEq] at hb <;> obtain ⟨rfl, rfl⟩ := hb
  case add =>
    refine ⟨.string (⟨p.toArray⟩ ++ ⟨q.toArray⟩), ?_, .inr ?_⟩
    · have := run_string_add_sum (P := P) (w := w) ⟨p.toArray⟩ ⟨q.toArray⟩ (by simpa [ByteArray.size] using hc)
      simp only [execOp, ho, ax', ay', eqGuard_add, binOp_string_add, Sem.run_bind, Sem.run_pure, Result.andThen_ok, this]
    · have : (⟨p.toArray⟩ ++ ⟨q.toArray⟩ : ByteArray) = ⟨(p ++ q).toArray⟩ := by
        apply ByteArray.ext
        simp
      rw [this]
      exact .str _
  case eql => exact ⟨_, by simp [execOp, ho, ax', ay', eqGuard, binOp_string_eql, ByteArray.toList_eq], .inr (.bool _)⟩
  case neq => exact ⟨_, by simp [execOp, ho, ax', ay', eqGuard, binOp_string_neq, ByteArray.toList_eq], .inr (.bool _)⟩
  case lss => exact ⟨_, by simp [execOp, ho, ax', ay', eqGuard, binOp_string_lss, ByteArray.toList_eq], .inr (.bool _)⟩
  case leq => exact ⟨_, by simp [execOp, ho, ax', ay', eqGuard, binOp_string_leq, ByteArray.toList_eq], .inr (.bool _)⟩
  case gtr => exact ⟨_, by simp [execOp, ho, ax', ay', eqGuard, binOp_string_gtr, ByteArray.toList_eq], .inr (.bool _)⟩
  case geq => exact ⟨_, by simp [execOp, ho, ax', ay', eqGuard, binOp_string_geq, ByteArray.toList_eq], .inr (.bool _)⟩
theorem sidx_yld (hs : SimW n W A0 s a w β σ) {T : TypeId} {x y : Operand} {x' y' : SO} (hx : cO x = some x') (hy : cO y = some y') (hT : P.underlying T = some .string) {p : List UInt8} {k : IntKind} {i : Int} (ex : x'.ev s = .str p) (ey : y'.ev s = .int k i) (hi : 0 ≤ i ∧ i < p.length)
    (ho : o.op = .index T x y) : Yld P A0 s a w β σ o (.int .u8 ((p.getD i.toNat 0).toNat : Int)) := by
  have ax := eval_of hs hx (by simp [ex])
  have ay := eval_of hs hy (by simp [ey])
  rw [ex] at ax; rw [ey] at ay
  have ax' := ax.str_inv
  have ay' := ay.int_inv
  refine ⟨_, ?_, .inr (.int _ _)⟩
  have h2 : 0 ≤ i ∧ i < ((⟨p.toArray⟩ : ByteArray).size : Int) := by simpa [ByteArray.size] using hi
  have hr := run_index_string (P := P) w T ⟨p.toArray⟩ k i hT
  rw [dif_pos h2] at hr
  have hlt : i.toNat < p.length := by omega
  have e : ((⟨p.toArray⟩ : ByteArray)[i.toNat]'(by have := h2.2; omega)) = p.getD i.toNat 0 := by
    rw [List.getD_eq_getElem?_getD, List.getElem?_eq_getElem hlt]
    simp [ByteArray.getElem_eq_getElem_data]
  rw [e] at hr
  simp only [execOp, ho, ax', ay', Sem.run_bind, hr, Result.andThen_ok, Sem.run_pure]
theorem aidx_yld (hs : SimW n W A0 s a w β σ) {T e : TypeId} {x y : Operand} {x' y' : SO} (hx : cO x = some x') (hy : cO y = some y') {m : Nat} (hT : P.underlying T = some (.array m e)) {j : TypeInfo} (hj : P.info? e = some j) {k : Option Nat} (hk : aggN P e = some k) {cs : List SV} {kk : IntKind} {i : Int} (ex : x'.ev s = .agg cs) (ey : y'.ev s = .int kk i) (hi : 0 ≤ i ∧ i < (m : Int))
    {v : SV} (hv : partV cs (i.toNat * j.size) k = some v) (ho : o.op = .index T x y) : Yld P A0 s a w β σ o v := by
  have ax := eval_of hs hx (by simp [ex])
  have ay := eval_of hs hy (by simp [ey])
  rw [ex] at ax; rw [ey] at ay
  obtain ⟨vs, ax', hall⟩ := ax.agg_inv
  have ay' := ay.int_inv
  obtain ⟨u, h1, h2⟩ := part_run (P := P) (w := w) hk hall.u hv
  have hse : (sizeOf e).run P w = .ok j.size w := by simp [sizeOf, typeInfo, hj]
  exact ⟨u, by simp [execOp, ho, ax', ay', Instr.index, asIntOf, run_underlying hT, hi.1, hi.2, hse, h1], .inr h2⟩
theorem aptr_yld (hs : SimW n W A0 s a w β σ) {T e : TypeId} {x y : Operand} {x' y' : SO} (hx : cO x = some x') (hy : cO y = some y') {m : Nat} (hT : P.underlying T = some (.array m e)) {j : TypeInfo} (hj : P.info? e = some j) (hsz : 0 < j.size) {d p : Nat} {kk : IntKind} {i : Int} (ex : x'.ev s = .ptr d p) (ey : y'.ev s = .int kk i) (hi : 0 ≤ i ∧ i < (m : Int))
    (ho : o.op = .indexAddr T x y) : Yld P A0 s a w β σ o (.ptr d (p + i.toNat * j.size)) := by
  have ax := eval_of hs hx (by simp [ex])
  have ay := eval_of hs hy (by simp [ey])
  rw [ex] at ax; rw [ey] at ay
  obtain ⟨e1, c', e2⟩ := ax.ptr_inv
  have ay' := ay.int_inv
  have hse : (sizeOf e).run P w = .ok j.size w := by simp [sizeOf, typeInfo, hj]
  have hne : j.size ≠ 0 := by omega
  refine ⟨.pointer (some ⟨β d, p + i.toNat * j.size, none⟩), ?_, .inr (.ptr d _ c' e2)⟩
  have e1' : a.eval x = .pointer (some ⟨β d, p, none⟩) := e1
  simp [execOp, ho, e1', ay', Instr.indexAt, Instr.sureAddr, asIntOf, run_underlying hT, hi.1, hi.2, hse, Addr.add_lit, hne]
theorem aptrG_yld (hs : SimW n W A0 s a w β σ) {T e : TypeId} {x y : Operand} {x' y' : SO} (hx : cO x = some x') (hy : cO y = some y') {m : Nat} (hT : P.underlying T = some (.array m e)) {j : TypeInfo} (hj : P.info? e = some j) (hsz : 0 < j.size) {g p : Nat} {kk : IntKind} {i : Int} (ex : x'.ev s = .gp g p) (ey : y'.ev s = .int kk i) (hi : 0 ≤ i ∧ i < (m : Int))
    (ho : o.op = .indexAddr T x y) : Yld P A0 s a w β σ o (.gp g (p + i.toNat * j.size)) := by
  have ax := eval_of hs hx (by simp [ex])
  have ay := eval_of hs hy (by simp [ey])
  rw [ex] at ax; rw [ey] at ay
  have ay' := ay.int_inv
  have hse : (sizeOf e).run P w = .ok j.size w := by simp [sizeOf, typeInfo, hj]
  have hne : j.size ≠ 0 := by omega
  have e1' := ax.gp_inv
  refine ⟨.pointer (some ⟨g, p + i.toNat * j.size, none⟩), ?_, .inr (.gp g _)⟩
  simp [execOp, ho, e1', ay', Instr.indexAt, Instr.sureAddr, asIntOf, run_underlying hT, hi.1, hi.2, hse, Addr.add_lit, hne]
theorem bnds_run {isSlice : Bool} {len cap : Nat} {lo hi : Option Operand} {lo' hi' : Option SO} (hs : SimW n W A0 s a w β σ) (hlo : cOpt lo = some lo') (hhi : cOpt hi = some hi') {l h : Int} (hb : bnds len lo' hi' ((lo'.toList ++ hi'.toList).map (SO.ev s)) = some (l, h))
    (h0 : 0 ≤ l) (h1 : l ≤ h) (h2 : h ≤ len) (h3 : len ≤ cap) : (Instr.sliceBounds isSlice len cap (lo.map a.eval) (hi.map a.eval) none).run P w = .ok (l.toNat, h.toNat, cap) w := by
  have hcap : h ≤ (cap : Int) := by omega
  have h4 : 0 ≤ h := by omega
  have hh : ((h.toNat : Nat) : Int) = h := by omega
  cases lo with
  | none =>
    simp only [cOpt, Option.some.injEq] at hlo; subst hlo
    cases hi with
    | none =>
      simp only [cOpt, Option.some.injEq] at hhi; subst hhi
      simp only [Option.toList_none, List.append_nil, List.map_nil, bnds, Option.some.injEq, Prod.mk.injEq] at hb
      obtain ⟨rfl, rfl⟩ := hb
      simp [Instr.sliceBounds]
    | some y =>
      simp only [cOpt, Option.map_eq_some_iff] at hhi
      obtain ⟨y', hy, rfl⟩ := hhi
      simp only [Option.toList_none, Option.toList_some, List.nil_append, List.map_cons, List.map_nil] at hb
      generalize ey : y'.ev s = vy at hb
      cases vy <;> simp only [bnds] at hb <;> try (cases hb; done)
      simp only [Option.some.injEq, Prod.mk.injEq] at hb
      obtain ⟨rfl, rfl⟩ := hb
      have ay := eval_of hs hy (by simp [ey])
      rw [ey] at ay
      simp [Instr.sliceBounds, ay.int_inv, run_sliceBound, hcap, h1]
  | some x =>
    simp only [cOpt, Option.map_eq_some_iff] at hlo
    obtain ⟨x', hx, rfl⟩ := hlo
    cases hi with
    | none =>
      simp only [cOpt, Option.some.injEq] at hhi; subst hhi
      simp only [Option.toList_none, Option.toList_some, List.append_nil, List.map_cons, List.map_nil] at hb
      generalize ex : x'.ev s = vx at hb
      cases vx <;> simp only [bnds] at hb <;> try (cases hb; done)
      simp only [Option.some.injEq, Prod.mk.injEq] at hb
      obtain ⟨rfl, rfl⟩ := hb
      have ax := eval_of hs hx (by simp [ex])
      rw [ex] at ax
      simp [Instr.sliceBounds, ax.int_inv, run_sliceBound, h0, h1]
    | some y =>
      simp only [cOpt, Option.map_eq_some_iff] at hhi
      obtain ⟨y', hy, rfl⟩ := hhi
      simp only [Option.toList_some, List.cons_append, List.nil_append, List.map_cons, List.map_nil] at hb
      generalize ex : x'.ev s = vx at hb
      generalize ey : y'.ev s = vy at hb
      cases vx <;> cases vy <;> simp only [bnds] at hb <;> try (cases hb; done)
      simp only [Option.some.injEq, Prod.mk.injEq] at hb
      obtain ⟨rfl, rfl⟩ := hb
      have ax := eval_of hs hx (by simp [ex])
      rw [ex] at ax
      have ay := eval_of hs hy (by simp [ey])
      rw [ey] at ay
      simp [Instr.sliceBounds, ax.int_inv, ay.int_inv, run_sliceBound, h0, h1, hcap, h4, hh]
theorem ssub_yld (hs : SimW n W A0 s a w β σ) {T : TypeId} {x : Operand} {x' : SO} {lo hi : Option Operand} {lo' hi' : Option SO} (hx : cO x = some x') (hlo : cOpt lo = some lo') (hhi : cOpt hi = some hi') (hT : P.underlying T = some .string) {p : List UInt8} (ex : x'.ev s = .str p) {l h : Int}
    (hb : bnds p.length lo' hi' ((lo'.toList ++ hi'.toList).map (SO.ev s)) = some (l, h)) (h0 : 0 ≤ l) (h1 : l ≤ h) (h2 : h ≤ p.length) (ho : o.op = .slice T x lo hi none) : Yld P A0 s a w β σ o (.str ((p.take h.toNat).drop l.toNat)) := by
  have ax := eval_of hs hx (by simp [ex])
  rw [ex] at ax
  have ax' := ax.str_inv
  have hsz : (⟨p.toArray⟩ : ByteArray).size = p.length := by simp [ByteArray.size]
  have hr := bnds_run (P := P) (isSlice := false) (cap := p.length) hs hlo hhi hb h0 h1 h2 (Nat.le_refl _)
  have e : (⟨p.toArray⟩ : ByteArray).extract l.toNat h.toNat = ⟨((p.take h.toNat).drop l.toNat).toArray⟩ := by
    apply ByteArray.ext
    simp [ByteArray.data_extract, List.drop_take]
  refine ⟨.string ⟨((p.take h.toNat).drop l.toNat).toArray⟩, ?_, .inr (.str _)⟩
  rw [← e]
  have hs' : (Instr.slice T (.string ⟨p.toArray⟩) (lo.map a.eval) (hi.map a.eval) none).run P w = .ok (.string ((⟨p.toArray⟩ : ByteArray).extract l.toNat h.toNat)) w := by
    simp [Instr.slice, run_underlying hT, hsz, hr]
  simp only [execOp, ho, ax', Sem.run_bind, Option.map_none, run_sliceAt_string _ _ _ _ _ _ hT, hs', Result.andThen_ok, Sem.run_pure]
theorem faddr_yld (hs : SimW n W A0 s a w β σ) {T : TypeId} {x : Operand} {x' : SO} (hx : cO x = some x') {f : Nat} {fs : Array Field} (hT : P.underlying T = some (.struct fs)) {fo m : Nat} (hp : place P fs f = some (fo, m + 1)) (ho : o.op = .fieldAddr T x f) {c : Prop} {v : SV}
    (he : effP (.faddr fo x') [x'.ev s] = some (c, v)) (hc : c) : Yld P A0 s a w β σ o v := by
  have ax := fun h => eval_of hs hx h
  generalize x'.ev s = vx at ax he
  cases vx <;> simp only [effP, Option.some.injEq, Prod.mk.injEq] at he <;> try (cases he; done)
  case ptr d off =>
    obtain ⟨_, rfl⟩ := he
    obtain ⟨e1, c', e2⟩ := (ax (by simp)).ptr_inv
    refine ⟨_, faddr_run e1 hT hp ho, .inr ?_⟩
    rw [Addr.add_lit]
    exact .ptr d _ c' e2
  case gp g oo =>
    obtain ⟨_, rfl⟩ := he
    refine ⟨_, faddr_run (ax (by simp)).gp_inv hT hp ho, .inr ?_⟩
    rw [Addr.add_lit]
    exact .gp g _
  case elem d g n i oo =>
    obtain ⟨_, rfl⟩ := he
    have h1 := ax (by simp)
    generalize hv : a.eval x = u at h1
    cases h1
    rename_i cur b q h1 h2 h3
    refine ⟨_, faddr_run hv hT hp ho, .inr ?_⟩
    rw [Addr.add_lit]
    refine .elem d g n i _ cur b _ h1 h2 fun he => ?_
    obtain ⟨c0, e1, e2⟩ := h3 he
    exact ⟨c0, e1, by omega⟩
  case fz cs =>
    obtain ⟨rfl, rfl⟩ := he
    have h1 := ax (by simp)
    generalize hv : a.eval x = u at h1
    cases h1
    rename_i b oo vs h1 h2 h4 h3 h5
    refine ⟨_, faddr_run hv hT hp ho, .inr ?_⟩
    rw [Addr.add_lit]
    have hd := All.drop (E := env A0 s w β σ) ⟨h3, h5⟩ fo
    refine .fz _ b _ (vs.drop fo) h1 h2 hd.1 (fun j u hu => ?_) hd.2
    rw [List.getElem?_drop] at hu
    rw [Nat.add_assoc]
    exact h4 _ u hu
end
end Go.Proofs.Ytgklfolmlcfjgaa.Y
