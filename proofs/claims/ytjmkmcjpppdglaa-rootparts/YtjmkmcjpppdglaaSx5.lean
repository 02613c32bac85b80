/- The symbolic walk is sound: the fourth part: every operation in one theorem. -/
import Derived.Test.YtjmkmcjpppdglaaSx4
namespace Go.Proofs.Ytjmkmcjpppdglaa.Sx
open Go.RowKit
section
variable {P : Program} {n : Nat} {W : World} {s : St} {a : Act} {w : World} {β : Nat → Nat} {σ : Nat → Sl} {o : Oper} {K : Act → World → Prop} {Q : Exit → Act → World → Prop}

theorem aggN_spec {t : TypeId} {k : Option Nat} (h : aggN P t = some k) : ∃ d i, P.underlying t = some d ∧ P.info? t = some i ∧ k = if isAggD d then some i.size else none := by
  unfold aggN at h
  split at h
  · rename_i d i hd hi
    simp only [Option.some.injEq] at h
    exact ⟨d, i, hd, hi, h.symm⟩
  · cases h
theorem run_isAgg {t : TypeId} {d : TypeDesc} (h : P.underlying t = some d) : (isAgg t).run P w = .ok (isAggD d) w := by
  unfold isAgg
  rw [Sem.run_bind, run_underlying h w]
  cases d <;> simp [isAggD]

theorem mov_yld (hs : SimW n W s a w β σ) {x : Operand} {y : SO} (hx : cO x = some y) (ho : o.op = .move x ∨ o.op = .assign x) : Yld P s a w β σ o (y.ev s) := by
  refine ⟨a.eval x, by rcases ho with ho | ho <;> simp only [execOp, ho] <;> rfl, ?_, labs_of hs hx⟩
  by_cases h : y.ev s = .unk
  · exact .inl h
  · exact .inr (eval_of hs hx h)
theorem pick_yld (hs : SimW n W s a w β σ) {c x y : Operand} {c' x' y' : SO} (hc : cO c = some c') (hx : cO x = some x') (hy : cO y = some y') {b : Bool} (hb : c'.ev s = .bool b) (ho : o.op = .pick c x y) :
    Yld P s a w β σ o (if b then x'.ev s else y'.ev s) := by
  have ec := eval_of hs hc (by simp [hb])
  rw [hb] at ec
  have ec' : a.eval c = .bool b := ec
  refine ⟨if b then a.eval x else a.eval y, ?_, ?_, ?_⟩
  · simp only [execOp, ho, ec', asBool, Sem.run_bind, Sem.run_pure, Result.andThen_ok]
  · cases b
    · by_cases h : y'.ev s = .unk
      · exact .inl h
      · exact .inr (eval_of hs hy h)
    · by_cases h : x'.ev s = .unk
      · exact .inl h
      · exact .inr (eval_of hs hx h)
  · cases b
    · exact labs_of hs hy
    · exact labs_of hs hx
theorem eqs_yld (hs : SimW n W s a w β σ) {neg : Bool} {T T' : TypeId} {x y : Operand} {x' y' : SO} (hx : cO x = some x') (hy : cO y = some y') {fs : Array Field} {os : List (Nat × Nat)} (hT : P.underlying T = some (.struct fs)) (hos : fs.toList.mapM (fieldTag P) = some os)
    (h1 : P.stoodInHeld T = false) (h2 : P.eqGuardType P.depth T = false) {xs ys : List SV} (ex : x'.ev s = .agg xs) (ey : y'.ev s = .agg ys) {b : Bool} (hb : eqCells xs ys os = some b)
    (ho : o.op = .binOp (if neg then .neq else .eql) T x y T') : Yld P s a w β σ o (.bool (if neg then !b else b)) := by
  have ax := eval_of hs hx (by simp [ex])
  have ay := eval_of hs hy (by simp [ey])
  rw [ex] at ax; rw [ey] at ay
  have ax' : a.eval x = .agg (xs.map (den0 β σ)).toArray := ax
  have ay' : a.eval y = .agg (ys.map (den0 β σ)).toArray := ay
  have hfo : P.fieldsOf T = fs := by simp [Program.fieldsOf, hT]
  have he := eqFields_run (P := P) (w := w) (β := β) (σ := σ) 9998 fs.toList os xs ys b hos hb
  have hst := run_equalIn_struct (P := P) w 9999 T (xs.map (den0 β σ)).toArray (ys.map (den0 β σ)).toArray (by rw [hfo]; exact hT) h1
  rw [hfo] at hst
  rw [he] at hst
  cases neg
  · refine ⟨.bool b, ?_, .inr rfl, mem_labs_one rfl rfl⟩
    simp only [execOp, ho, Bool.false_eq_true, if_false, ax', ay', Sem.run_bind, run_eqGuard_agg w _ T x y _ _ h2, Result.andThen_ok, run_eql_struct, hst, Sem.run_pure]
  · refine ⟨.bool (!b), ?_, .inr rfl, mem_labs_one rfl rfl⟩
    simp only [execOp, ho, if_true, ax', ay', Sem.run_bind, run_eqGuard_agg w _ T x y _ _ h2, Result.andThen_ok, run_neq_struct, hst, Sem.run_pure]
theorem neg_yld (hs : SimW n W s a w β σ) {T : TypeId} {x : Operand} {x' : SO} (hx : cO x = some x') {k : IntKind} {m : Int} (ex : x'.ev s = .int k m) (ho : o.op = .unOp .neg T x) : Yld P s a w β σ o (.int k (k.wrap (0 - m))) := by
  have ax := eval_of hs hx (by simp [ex])
  rw [ex] at ax
  have ax' : a.eval x = .int k m := ax
  refine ⟨.int k (k.wrap (0 - m)), ?_, .inr rfl, mem_labs_one rfl rfl⟩
  simp only [execOp, ho, ax', Op.unary, Op.intArith, Sem.run_bind, Sem.run_pure, Result.andThen_ok]
theorem not_yld (hs : SimW n W s a w β σ) {T : TypeId} {x : Operand} {x' : SO} (hx : cO x = some x') {b : Bool} (ex : x'.ev s = .bool b) (ho : o.op = .unOp .not T x) : Yld P s a w β σ o (.bool (!b)) := by
  have ax := eval_of hs hx (by simp [ex])
  rw [ex] at ax
  have ax' : a.eval x = .bool b := ax
  refine ⟨.bool (!b), ?_, .inr rfl, mem_labs_one rfl rfl⟩
  simp only [execOp, ho, ax', Op.unary, Sem.run_bind, Sem.run_pure, Result.andThen_ok]
theorem conv_yld (hs : SimW n W s a w β σ) {src dst : TypeId} {x : Operand} {x' : SO} (hx : cO x = some x') {k k' : IntKind} {m : Int} (ex : x'.ev s = .int k' m) {k0 : IntKind} (h1 : P.underlying src = some (.int k0)) (h2 : P.underlying dst = some (.int k))
    (ho : o.op = .convert src dst x) : Yld P s a w β σ o (.int k (k.wrap m)) := by
  have ax := eval_of hs hx (by simp [ex])
  rw [ex] at ax
  have ax' : a.eval x = .int k' m := ax
  refine ⟨.int k (k.wrap m), ?_, .inr rfl, mem_labs_one rfl rfl⟩
  simp only [execOp, ho, ax', convert, Sem.run_bind, run_underlying h1, run_underlying h2, Result.andThen_ok, Conv.intToInt, Sem.run_pure]
theorem faddr_yld (hs : SimW n W s a w β σ) {T : TypeId} {x : Operand} {x' : SO} (hx : cO x = some x') {f d off : Nat} (ex : x'.ev s = .ptr d off) {fs : Array Field} (hT : P.underlying T = some (.struct fs)) {fo m : Nat} (hp : place P fs f = some (fo, m + 1))
    (ho : o.op = .fieldAddr T x f) : Yld P s a w β σ o (.ptr d (off + fo)) := by
  have ax := eval_of hs hx (by simp [ex])
  rw [ex] at ax
  have ax' : a.eval x = .pointer (some ⟨β d, off, none⟩) := ax
  have hl := labs_of hs hx
  rw [ex] at hl
  simp only [place, Option.bind_eq_some_iff, Option.map_eq_some_iff, Prod.mk.injEq] at hp
  obtain ⟨fd, hfd, i, hi, rfl, hsz⟩ := hp
  refine ⟨.pointer (some ⟨β d, off + fd.offset, none⟩), ?_, .inr rfl, hl⟩
  have hsize : (sizeOf fd.type).run P w = .ok (m + 1) w := by simp [sizeOf, typeInfo, hi, hsz]
  simp only [execOp, ho, ax', Instr.fieldAt, Sem.run_bind, run_underlying hT, Result.andThen_ok, hfd, Instr.sureAddr, Sem.run_pure, fieldPlace, hsize, Sem.run_ite, Nat.add_one_ne_zero, if_false, Addr.add_lit]
theorem part_run {t : TypeId} {k : Option Nat} (h : aggN P t = some k) {cs : List SV} {off : Nat} {v : SV} (hv : partV cs off k = some v) : (part t (cs.map (den0 β σ)).toArray off).run P w = .ok (den β σ v) w ∧ v ≠ .unk ∧ ∀ d ∈ v.labs, ∃ c ∈ cs, d ∈ c.lab0 := by
  obtain ⟨d, i, hd, hi, rfl⟩ := aggN_spec h
  by_cases hag : isAggD d = true
  · simp only [hag, if_true, partV] at hv
    split at hv
    · rename_i hle
      simp only [Option.some.injEq] at hv
      subst hv
      refine ⟨?_, by simp, fun e he => ?_⟩
      · have hsz : (sizeOf t).run P w = .ok i.size w := by simp [sizeOf, typeInfo, hi]
        simp only [part, Sem.run_bind, run_isAgg hd, hag, Result.andThen_ok, if_true, hsz, Sem.run_pure, den, den1]
        congr 2
        simp [List.map_drop, List.map_take]
      · simp only [SV.labs, SV.lab1, List.mem_flatMap] at he
        obtain ⟨c, hc, he⟩ := he
        exact ⟨c, List.mem_of_mem_drop (List.mem_of_mem_take hc), he⟩
    · cases hv
  · simp only [hag, partV, Bool.false_eq_true, if_false] at hv
    split at hv
    · rename_i u hu
      split at hv
      · rename_i h1
        simp only [Option.some.injEq] at hv
        subst hv
        have hm : u ∈ cs := List.mem_of_getElem? hu
        refine ⟨?_, by intro he; subst he; simp [SV.one] at h1, fun e he => ⟨u, hm, by rw [← labs_of_one h1]; exact he⟩⟩
        rw [den_of_one h1]
        simp [part, run_isAgg hd, hag, hu]
      · cases hv
    · cases hv
theorem fld_yld (hs : SimW n W s a w β σ) {T : TypeId} {x : Operand} {x' : SO} (hx : cO x = some x') {f : Nat} {cs : List SV} (ex : x'.ev s = .agg cs) {fs : Array Field} (hT : P.underlying T = some (.struct fs)) {g : Field} (hg : fs[f]? = some g) {k : Option Nat} (hk : aggN P g.type = some k)
    {v : SV} (hv : partV cs g.offset k = some v) (ho : o.op = .field T x f) : Yld P s a w β σ o v := by
  have ax := eval_of hs hx (by simp [ex])
  rw [ex] at ax
  have ax' : a.eval x = .agg (cs.map (den0 β σ)).toArray := ax
  have hl := labs_of hs hx
  rw [ex] at hl
  obtain ⟨h1, _, h3⟩ := part_run (P := P) (w := w) (β := β) (σ := σ) hk hv
  refine ⟨_, ?_, .inr rfl, fun d hd => ?_⟩
  · simp only [execOp, ho, ax', Instr.field, Sem.run_bind, run_underlying hT, Result.andThen_ok, hg, asAgg, Sem.run_pure, h1]
  · obtain ⟨c, hc, hd⟩ := h3 d hd
    exact hl d (by simp only [SV.labs, SV.lab1, List.mem_flatMap]; exact ⟨c, hc, hd⟩)
theorem ext_yld (hs : SimW n W s a w β σ) {x : Operand} {x' : SO} (hx : cO x = some x') {i : Nat} {vs : List SV} (ex : x'.ev s = .tup vs) {v : SV} (hv : vs[i]? = some v) (ht : ∀ us, v ≠ .tup us) (ho : o.op = .extract x i) : Yld P s a w β σ o v := by
  have ax := eval_of hs hx (by simp [ex])
  rw [ex] at ax
  have ax' : a.eval x = .tuple (vs.map (den1 β σ)).toArray := ax
  have hl := labs_of hs hx
  rw [ex] at hl
  refine ⟨den1 β σ v, ?_, .inr ?_, fun d hd => hl d ?_⟩
  · have : (vs.map (den1 β σ)).toArray[i]? = some (den1 β σ v) := by simp [hv]
    simp only [execOp, ho, ax', Instr.extract, this, Sem.run_bind, Sem.run_pure, Result.andThen_ok]
  · cases v <;> first | rfl | exact absurd rfl (ht _)
  · simp only [SV.labs, List.mem_flatMap]
    refine ⟨v, List.mem_of_getElem? hv, ?_⟩
    cases v <;> first | exact hd | exact absurd rfl (ht _)
theorem run_loadVar (hs : SimW n W s a w β σ) {T : TypeId} {d off T' : Nat} {cs : List SV} (hm : s.mem d = .var T' cs) {k : Option Nat} (hk : aggN P T = some k) {v : SV} (hv : partV cs off k = some v) :
    (loadVar T ⟨β d, off, none⟩).run P w = .ok (den β σ v) w ∧ v ≠ .unk ∧ ∀ e ∈ v.labs, (s.mem e).isFresh = false := by
  have hblk := hs.mem d
  rw [hm] at hblk
  have hh := hblk.2
  have hlab : ∀ e, ∀ c ∈ cs, e ∈ c.lab0 → (s.mem e).isFresh = false := fun e c hc he => (hs.mlab d T' cs hm c hc).2 e he
  obtain ⟨dd, i, hd, hi, rfl⟩ := aggN_spec hk
  by_cases hag : isAggD dd = true
  · simp only [hag, if_true, partV] at hv
    split at hv
    · rename_i hle
      simp only [Option.some.injEq] at hv
      subst hv
      refine ⟨?_, by simp, fun e he => ?_⟩
      · have hsz : (sizeOf T).run P w = .ok i.size w := by simp [sizeOf, typeInfo, hi]
        have hl : ((((cs.drop off).take i.size).map (den0 β σ))).length = i.size := by simp; omega
        have hrun := run_loadCells_list (P := P) w ⟨β d, off, none⟩ (((cs.drop off).take i.size).map (den0 β σ)) (fun j u hu => by
          rw [Addr.add_lit, cell_of_row w (β d) (off + j) _ T' (0, 0) hh]
          rw [List.getElem?_map] at hu
          obtain ⟨c, hc, rfl⟩ := Option.map_eq_some_iff.1 hu
          have hj : j < i.size := by
            have := (List.getElem?_eq_some_iff.1 hc).1
            simp at this; omega
          rw [List.getElem?_take, if_pos hj, List.getElem?_drop] at hc
          simp [hc])
        rw [hl] at hrun
        simp only [loadVar, Sem.run_bind, run_isAgg hd, hag, Result.andThen_ok, if_true, hsz, hrun, Sem.run_pure, den, den1]
      · simp only [SV.labs, SV.lab1, List.mem_flatMap] at he
        obtain ⟨c, hc, he⟩ := he
        exact hlab e c (List.mem_of_mem_drop (List.mem_of_mem_take hc)) he
    · cases hv
  · simp only [hag, partV, Bool.false_eq_true, if_false] at hv
    split at hv
    · rename_i u hu
      split at hv
      · rename_i h1
        simp only [Option.some.injEq] at hv
        subst hv
        refine ⟨?_, by intro he; subst he; simp [SV.one] at h1, fun e he => hlab e u (List.mem_of_getElem? hu) (by rw [← labs_of_one h1]; exact he)⟩
        have hcell : w.cell? ⟨β d, off, none⟩ = some (den0 β σ u) := by
          rw [cell_of_row w (β d) off _ T' (0, 0) hh]
          simp [hu]
        simp only [loadVar, Sem.run_bind, run_isAgg hd, hag, Result.andThen_ok, Bool.false_eq_true, if_false, run_load, hcell, den_of_one h1]
      · cases hv
    · cases hv
theorem load_yld (hs : SimW n W s a w β σ) {T : TypeId} {x : Operand} {x' : SO} (hx : cO x = some x') {d off T' : Nat} (ex : x'.ev s = .ptr d off) {cs : List SV} (hm : s.mem d = .var T' cs) {k : Option Nat} (hk : aggN P T = some k) {v : SV} (hv : partV cs off k = some v)
    (ho : o.op = .load T x) : Yld P s a w β σ o v := by
  have ax := eval_of hs hx (by simp [ex])
  rw [ex] at ax
  have ax' : a.eval x = .pointer (some ⟨β d, off, none⟩) := ax
  obtain ⟨h1, _, h3⟩ := run_loadVar (P := P) hs hm hk hv
  refine ⟨den β σ v, ?_, .inr rfl, h3⟩
  simp only [execOp, ho, ax', Instr.loadAt, Instr.sureAddr, Sem.run_bind, Sem.run_pure, Result.andThen_ok, h1]

/-! The operations that make or write memory. -/
theorem box_sound (hs : SimW n W s a w β σ) (hd : ∀ d, o.dst = some d → d < n) {T : TypeId} {x : Operand} {x' : SO} (hx : cO x = some x') (h1 : (x'.ev s).cells.all SV.one = true) {lab : Nat} (hf : (s.mem lab).isFresh = true) (ho : o.op = .box T x)
    (hK : ∀ a' w', Sim n W ((s.setm lab (.var T (x'.ev s).cells)).put o.dst (.ptr lab 0)) a' w' → K a' w') : o.wp P a w K Q := by
  have ax := eval_of hs hx (ne_unk_cells h1)
  obtain ⟨β', hb, hs'⟩ := hs.newvar lab T (x'.ev s).cells hf (fun c hc => ⟨(List.all_eq_true.1 h1) c hc, fun d hd => labs_of hs hx d (lab_cells h1 hc hd)⟩)
  have hr : (execOp a.eval o).run P w = .ok (.value (.pointer (some ⟨w.heap.size, 0, none⟩))) (w.alloc (.cells ((x'.ev s).cells.map (den0 β σ)).toArray T)) := by
    simp only [execOp, ho, ax, Instr.box, newVar, newRow, Sem.run_bind, run_newObj, Result.andThen_ok, Sem.run_pure, cells_den h1]
    rfl
  unfold Oper.wp
  rw [hr]
  refine hK _ _ ⟨β', σ, hs'.put o.dst hd (.inr ?_) ?_⟩
  · simp [den, den1, den0, hb]
  · intro d hd; simp [SV.labs, SV.lab1, SV.lab0] at hd; subst hd; simp [St.setm, setM, Cel.isFresh]
theorem alloc_sound (hs : SimW n W s a w β σ) (hd : ∀ d, o.dst = some d → d < n) {T : TypeId} {z : List SV} (hz : ((P.info? T).bind (·.zero)).bind cellsSV = some z) {lab : Nat} (hf : (s.mem lab).isFresh = true) (ho : o.op = .alloc T)
    (hK : ∀ a' w', Sim n W ((s.setm lab (.var T z)).put o.dst (.ptr lab 0)) a' w' → K a' w') : o.wp P a w K Q := by
  obtain ⟨it, zv, hi, hzv, hcells, hzl⟩ := zero_of (P := P) (β := β) (σ := σ) hz
  obtain ⟨β', hb, hs'⟩ := hs.newvar lab T z hf (fun c hc => ⟨(hzl c hc).2, fun d hd => by rw [(hzl c hc).1] at hd; cases hd⟩)
  have hr : (execOp a.eval o).run P w = .ok (.value (.pointer (some ⟨w.heap.size, 0, none⟩))) (w.alloc (.cells (z.map (den0 β σ)).toArray T)) := by
    simp only [execOp, ho, Instr.alloc, zeroValue, typeInfo, newVar, newRow, Sem.run_bind, run_program, hi, hzv, run_newObj, Result.andThen_ok, Sem.run_pure, hcells]
    rfl
  unfold Oper.wp
  rw [hr]
  refine hK _ _ ⟨β', σ, hs'.put o.dst hd (.inr ?_) ?_⟩
  · simp [den, den1, den0, hb]
  · intro d hd; simp [SV.labs, SV.lab1, SV.lab0] at hd; subst hd; simp [St.setm, setM, Cel.isFresh]
theorem store_sound (hs : SimW n W s a w β σ) (hdst : ∀ d, o.dst = some d → d < n) {T : TypeId} {x y : Operand} {x' y' : SO} (hx : cO x = some x') (hy : cO y = some y') {d off T' : Nat} (ex : x'.ev s = .ptr d off) {cs : List SV} (hm : s.mem d = .var T' cs) {i : TypeInfo} (hi : P.info? T = some i)
    (hl : (y'.ev s).cells.length = i.size) (hle : off + i.size ≤ cs.length) (h1 : (y'.ev s).cells.all SV.one = true) (ho : o.op = .store T x y)
    (hK : ∀ a' w', Sim n W ((s.setm d (.var T' (setAt cs off (y'.ev s).cells))).put o.dst (.tup [])) a' w' → K a' w') : o.wp P a w K Q := by
  have ax := eval_of hs hx (by simp [ex])
  rw [ex] at ax
  have ax' : a.eval x = .pointer (some ⟨β d, off, none⟩) := ax
  have ay := eval_of hs hy (ne_unk_cells h1)
  have hblk := hs.mem d
  rw [hm] at hblk
  have hh := hblk.2
  have hlist : ∀ c ∈ setAt cs off (y'.ev s).cells, c.one = true ∧ ∀ e ∈ c.lab0, (s.mem e).isFresh = false := fun c hc => by
    rcases mem_setAt _ _ _ _ hc with h | h
    · exact hs.mlab d T' cs hm c h
    · exact ⟨(List.all_eq_true.1 h1) c h, fun e he => labs_of hs hy e (lab_cells h1 h he)⟩
  have hst := run_storeCells_at P (β d) off T' ((y'.ev s).cells.map (den0 β σ)) 0 (cs.map (den0 β σ)).toArray w hh (by simp; omega) (fun v hv => by
    obtain ⟨c, hc, rfl⟩ := List.mem_map.1 hv
    exact one_cell ((List.all_eq_true.1 h1) c hc))
  have hcs : ((cs.map (den0 β σ)).toArray.toList.take (off + 0) ++ (y'.ev s).cells.map (den0 β σ) ++ (cs.map (den0 β σ)).toArray.toList.drop (off + 0 + ((y'.ev s).cells.map (den0 β σ)).length)).toArray = ((setAt cs off (y'.ev s).cells).map (den0 β σ)).toArray := by
    rw [setAt_eq _ _ _ (by omega)]
    simp [List.map_take, List.map_drop]
  rw [hcs] at hst
  have hsz : (sizeOf T).run P w = .ok i.size w := by simp [sizeOf, typeInfo, hi]
  have hr : (execOp a.eval o).run P w = .ok .skip (w.setRow (β d) ((setAt cs off (y'.ev s).cells).map (den0 β σ)).toArray) := by
    simp only [execOp, ho, ax', ay, Instr.storeAt, Instr.sureAddr, Sem.run_bind, Sem.run_pure, Result.andThen_ok, storeVar, hsz, Sem.run_ite, hl, ne_eq, not_true_eq_false, if_false, cells_den h1, List.size_toArray, List.length_map, hst]
  unfold Oper.wp
  rw [hr]
  refine hK _ _ ⟨β, σ, (hs.setvar d T' cs _ hm hlist (setRow_size w _ _) rfl rfl rfl (setRow_heap w (β d) _ _ T' (0, 0) hh) (fun b hb => setRow_other w (β d) b _ hb)).put o.dst hdst (.inr rfl) (by simp [SV.labs])⟩

theorem is0_of (hs : SimW n W s a w β σ) {v : SV} (h : (v.res0 s.mem).arg0 = true) : Is0 w (v.res0 s.mem) (den0 β σ v) := by
  cases v
  case sl d =>
    have hm := hs.mem d
    simp only [SV.res0] at h ⊢
    split at h
    · rename_i own e r he
      rw [he] at hm
      exact hm.1
    · simp [SV.arg0] at h
  all_goals first
    | (simp [SV.res0, SV.arg0] at h; done)
    | rfl
theorem all0_of (hs : SimW n W s a w β σ) : ∀ (vs : List SV), (vs.map (SV.res0 s.mem)).all SV.arg0 = true → AllIs0 w (vs.map (SV.res0 s.mem)) (vs.map (den0 β σ))
  | [], _ => trivial
  | v :: vs, h => by
    simp only [List.map_cons, List.all_cons, Bool.and_eq_true] at h
    exact ⟨is0_of hs h.1, all0_of hs vs h.2⟩
theorem is1_of (hs : SimW n W s a w β σ) {v : SV} (h : (v.res1 s.mem).arg1 = true) : Is1 w (v.res1 s.mem) (den β σ v) ∧ v ≠ .unk := by
  cases v
  case agg cs => exact ⟨⟨cs.map (den0 β σ), rfl, all0_of hs cs h⟩, by simp⟩
  case sl d =>
    have hm := is0_of hs (v := .sl d)
    simp only [SV.res1, SV.res0] at h hm ⊢
    split at h
    · rename_i own e r he
      simp only [he] at hm ⊢
      exact ⟨hm rfl, by simp⟩
    · simp [SV.arg1, SV.arg0] at h
  all_goals first
    | (simp [SV.res1, SV.res0, SV.arg1, SV.arg0] at h; done)
    | exact ⟨rfl, by simp⟩
theorem args_of (hs : SimW n W s a w β σ) : ∀ (xs : List Operand) (ys : List SO), xs.mapM cO = some ys → ((ys.map (SO.ev s)).map (SV.res1 s.mem)).all SV.arg1 = true → AllIs1 w ((ys.map (SO.ev s)).map (SV.res1 s.mem)) (xs.map a.eval)
  | [], ys, h, _ => by simp at h; subst h; trivial
  | x :: xs, ys, h, h1 => by
    simp only [List.mapM_cons, Option.bind_eq_bind, Option.pure_def, Option.bind_eq_some_iff] at h
    obtain ⟨y, hy, ys', hys, he⟩ := h
    simp only [Option.some.injEq] at he
    subst he
    simp only [List.map_cons, List.all_cons, Bool.and_eq_true] at h1
    obtain ⟨i1, i2⟩ := is1_of hs h1.1
    refine ⟨?_, args_of hs xs ys' hys h1.2⟩
    rw [eval_of hs hy i2]
    exact i1
theorem call_sound {Γ : Gam} (hΓ : GamOk P Γ) (hs : SimW n W s a w β σ) (hd : ∀ d, o.dst = some d → d < n) {c : Call} {f : Nat} (ho : o.op = .call c) (hc : c.callee = .value (.func f)) {fn : Func} (hf : P.funcs[f]? = some fn) (hn : fn.name ≠ "runtime.NumGoroutine") (hb : fn.body.isSome = true)
    {ys : List SO} (hx : c.args.toList.mapM cO = some ys) (h1 : ((ys.map (SO.ev s)).map (SV.res1 s.mem)).all SV.arg1 = true) {p : Prop} {r : SV} (hg : Γ f ((ys.map (SO.ev s)).map (SV.res1 s.mem)) = some (p, r)) (hp : p)
    (hK : ∀ a' w', Sim n W (s.put o.dst r) a' w' → K a' w') : o.wp P a w K Q := by
  obtain ⟨hfl, hcall⟩ := hΓ f _ p r hg hp
  have hargs := args_of hs c.args.toList ys hx h1
  have hr : (execOp a.eval o).run P w = .ok (.enter f (c.args.map a.eval)) w := by
    have hn' : (fn.name == "runtime.NumGoroutine") = false := by simpa using hn
    have hb' : fn.body.isNone = false := by cases h : fn.body <;> simp_all
    simp only [execOp, ho, resolve, hc, Act.eval, Deferred.ofValue, invoke, callFunc, Sem.run_bind, Sem.run_pure, Result.andThen_ok, run_program, hf, hn', hb', Bool.false_eq_true, if_false, Array.append_empty, Array.empty_append]
  unfold Oper.wp
  rw [hr]
  have hh := hcall w (c.args.toList.map a.eval) hargs
  rw [show (c.args.toList.map a.eval).toArray = c.args.map a.eval by rw [← Array.toList_map, Array.toArray_toList]] at hh
  refine hh.mono fun e w' ⟨hbel, v, he, hv⟩ => ?_
  subst he
  obtain ⟨e1, e2⟩ := flat_den hfl hv β σ
  exact hK _ _ ⟨β, σ, (hs.below hbel).put o.dst hd (.inr e1) (by rw [e2]; simp)⟩

theorem yld_sound (hs : SimW n W s a w β σ) (hd : ∀ d, o.dst = some d → d < n) {v : SV} (hy : Yld P s a w β σ o v) {s' : St} (happ : s' = s.put o.dst v) (hK : ∀ a' w', Sim n W s' a' w' → K a' w') : o.wp P a w K Q := by
  obtain ⟨u, hr, hv, hl⟩ := hy
  subst happ
  exact val_sound hs hd hr hv hl hK

theorem mapM_two {l : List Operand} {x' y' : SO} (h : l.mapM cO = some [x', y']) : ∃ x y, l = [x, y] ∧ cO x = some x' ∧ cO y = some y' := by
  match l, h with
  | [], h => simp at h
  | [x], h =>
    simp only [List.mapM_cons, List.mapM_nil, Option.bind_eq_bind, Option.pure_def, Option.bind_some, Option.bind_eq_some_iff] at h
    obtain ⟨y, _, he⟩ := h
    simp at he
  | [x, y], h =>
    simp only [List.mapM_cons, List.mapM_nil, Option.bind_eq_bind, Option.pure_def, Option.bind_some, Option.bind_eq_some_iff] at h
    obtain ⟨a, h1, b, ⟨c, h2, h3⟩, he⟩ := h
    simp only [Option.some.injEq] at h3
    subst h3
    simp only [Option.some.injEq, List.cons.injEq, and_true] at he
    obtain ⟨rfl, rfl⟩ := he
    exact ⟨x, y, rfl, h1, h2⟩
  | x :: y :: z :: l, h =>
    simp only [List.mapM_cons, Option.bind_eq_bind, Option.pure_def, Option.bind_eq_some_iff] at h
    obtain ⟨a, _, b, ⟨c, _, d, ⟨e, _, f, _, he1⟩, he2⟩, he3⟩ := h
    simp only [Option.some.injEq] at he1 he2 he3
    subst he1 he2
    simp at he3
theorem mx_yld (hs : SimW n W s a w β σ) {m : Bool} {c : Call} (ho : o.op = .call c) (hc : c.callee = .builtin (if m then .max else .min)) {x' y' : SO} (hx : c.args.toList.mapM cO = some [x', y']) {k : IntKind} {p q : Int} (ex : x'.ev s = .int k p) (ey : y'.ev s = .int k q) :
    Yld P s a w β σ o (.int k (if m then (if q > p then q else p) else (if q < p then q else p))) := by
  obtain ⟨x, y, hl, h1, h2⟩ := mapM_two hx
  have ha : c.args = #[x, y] := by rw [← Array.toArray_toList (xs := c.args), hl]
  have ax := eval_of hs h1 (by simp [ex])
  have ay := eval_of hs h2 (by simp [ey])
  rw [ex] at ax; rw [ey] at ay
  have ax' : a.eval x = .int k p := ax
  have ay' : a.eval y = .int k q := ay
  cases m
  · refine ⟨.int k (if q < p then q else p), ?_, .inr rfl, mem_labs_one rfl rfl⟩
    simp only [execOp, ho, resolve, hc, ha, Bool.false_eq_true, if_false, invoke, builtin, Sem.run_bind, Sem.run_pure, Result.andThen_ok, List.map_toArray, List.map_cons, List.map_nil, ax', ay', run_min_int2]
  · refine ⟨.int k (if q > p then q else p), ?_, .inr rfl, mem_labs_one rfl rfl⟩
    simp only [execOp, ho, resolve, hc, ha, if_true, invoke, builtin, Sem.run_bind, Sem.run_pure, Result.andThen_ok, List.map_toArray, List.map_cons, List.map_nil, ax', ay', run_max_int2]

/-- The operations that look at no memory. -/
theorem pure_yld {k : SK} (hc : cOp P o = some k) (hk : k.pure = true) (hs : SimW n W s a w β σ) {p : Prop} {v : SV} (he : effP k (k.opnds.map (SO.ev s)) = some (p, v)) (hp : p) : Yld P s a w β σ o v := by
  unfold cOp at hc
  split at hc
  · rename_i x ho
    obtain ⟨y, hy, rfl⟩ := Option.map_eq_some_iff.1 hc
    simp only [effP, SK.opnds, List.map_cons, List.map_nil, Option.some.injEq, Prod.mk.injEq] at he
    obtain ⟨_, rfl⟩ := he
    exact mov_yld hs hy (.inl ho)
  · rename_i x ho
    obtain ⟨y, hy, rfl⟩ := Option.map_eq_some_iff.1 hc
    simp only [effP, SK.opnds, List.map_cons, List.map_nil, Option.some.injEq, Prod.mk.injEq] at he
    obtain ⟨_, rfl⟩ := he
    exact mov_yld hs hy (.inr ho)
  · rename_i c x y ho
    split at hc
    · rename_i c' x' y' h1 h2 h3
      simp only [Option.some.injEq] at hc; subst hc
      simp only [SK.opnds, List.map_cons, List.map_nil] at he
      generalize hv : c'.ev s = vc at he
      cases vc <;> simp only [effP, Option.some.injEq, Prod.mk.injEq] at he <;> try (cases he; done)
      obtain ⟨_, rfl⟩ := he
      exact pick_yld hs h1 h2 h3 hv ho
    · cases hc
  · obtain ⟨y, hy, rfl⟩ := Option.map_eq_some_iff.1 hc
    cases hk
  · split at hc <;> first | (cases hc; done) | (simp only [Option.some.injEq] at hc; subst hc; cases hk; done)
  · rename_i T ps ho
    split at hc
    · rename_i fs z hT hz
      split at hc
      · rename_i hall
        obtain ⟨qs, hq, rfl⟩ := Option.map_eq_some_iff.1 hc
        simp only [SK.opnds, effP] at he
        split at he
        · rename_i cs hf
          simp only [Option.some.injEq, Prod.mk.injEq] at he
          obtain ⟨_, rfl⟩ := he
          exact build_yld hs ho hT hz hall hq hf
        · cases he
      · cases hc
    · cases hc
  · split at hc <;> first | (cases hc; done) | (simp only [Option.some.injEq] at hc; subst hc; cases hk; done)
  · split at hc <;> first | (cases hc; done) | (simp only [Option.some.injEq] at hc; subst hc; cases hk; done)
  · rename_i op T x y T' ho
    split at hc
    · rename_i x' y' hT hx hy
      simp only [Option.some.injEq] at hc; subst hc
      simp only [SK.opnds, List.map_cons, List.map_nil, effP] at he
      exact bin_yld hs hx hy he hp ho
    · rename_i x' y' hT hx hy
      split at hc <;> try (cases hc; done)
      all_goals
        simp only [Option.some.injEq] at hc
        subst hc
        simp only [SK.opnds, List.map_cons, List.map_nil] at he
        generalize hv : x'.ev s = vx at he
        generalize hv' : y'.ev s = vy at he
        cases vx <;> cases vy <;> simp only [effP, Option.some.injEq, Prod.mk.injEq] at he <;> try (cases he; done)
        obtain ⟨_, rfl⟩ := he
      · exact eqb_yld (neg := false) hs hx hy hT hv hv' ho
      · exact eqb_yld (neg := true) hs hx hy hT hv hv' ho
    · rename_i fs x' y' hT hx hy
      split at hc <;> try (cases hc; done)
      all_goals
        rename_i os hos hbb
        simp only [Option.some.injEq] at hc
        subst hc
        simp only [Bool.and_eq_true, Bool.not_eq_eq_eq_not, Bool.not_true] at hbb
        simp only [SK.opnds, List.map_cons, List.map_nil] at he
        generalize hv : x'.ev s = vx at he
        generalize hv' : y'.ev s = vy at he
        cases vx <;> cases vy <;> simp only [effP] at he <;> try (cases he; done)
        split at he
        · rename_i b hb
          simp only [Option.some.injEq, Prod.mk.injEq] at he
          obtain ⟨_, rfl⟩ := he
          first
            | exact eqs_yld (neg := false) hs hx hy hT hos hbb.1 hbb.2 hv hv' hb ho
            | exact eqs_yld (neg := true) hs hx hy hT hos hbb.1 hbb.2 hv hv' hb ho
        · cases he
    · cases hc
  · rename_i op T x ho
    obtain ⟨y, hy, rfl⟩ := Option.map_eq_some_iff.1 hc
    simp only [SK.opnds, List.map_cons, List.map_nil] at he
    generalize hv : y.ev s = vx at he
    cases op <;> cases vx <;> simp only [effP, Option.some.injEq, Prod.mk.injEq] at he <;> try (cases he; done)
    · obtain ⟨_, rfl⟩ := he
      exact neg_yld hs hy hv ho
    · obtain ⟨_, rfl⟩ := he
      exact not_yld hs hy hv ho
  · rename_i src dst x ho
    split at hc
    · rename_i k0 k1 x' h1 h2 hx
      simp only [Option.some.injEq] at hc; subst hc
      simp only [SK.opnds, List.map_cons, List.map_nil] at he
      generalize hv : x'.ev s = vx at he
      cases vx <;> simp only [effP, Option.some.injEq, Prod.mk.injEq] at he <;> try (cases he; done)
      obtain ⟨_, rfl⟩ := he
      exact conv_yld hs hx hv h1 h2 ho
    · cases hc
  · rename_i T x f ho
    split at hc
    · rename_i fs x' hT hx
      split at hc
      · rename_i fo m hpl
        simp only [Option.some.injEq] at hc; subst hc
        simp only [SK.opnds, List.map_cons, List.map_nil] at he
        generalize hv : x'.ev s = vx at he
        cases vx <;> simp only [effP, Option.some.injEq, Prod.mk.injEq] at he <;> try (cases he; done)
        obtain ⟨_, rfl⟩ := he
        exact faddr_yld hs hx hv hT hpl ho
      · cases hc
    · cases hc
  · rename_i T x f ho
    split at hc
    · rename_i fs x' hT hx
      split at hc
      · rename_i g hg
        obtain ⟨kk, hkk, rfl⟩ := Option.map_eq_some_iff.1 hc
        simp only [SK.opnds, List.map_cons, List.map_nil] at he
        generalize hv : x'.ev s = vx at he
        cases vx <;> simp only [effP] at he <;> try (cases he; done)
        obtain ⟨u, hu, he⟩ := Option.map_eq_some_iff.1 he
        simp only [Prod.mk.injEq] at he
        obtain ⟨_, rfl⟩ := he
        exact fld_yld hs hx hv hT hg hkk hu ho
      · cases hc
    · cases hc
  · rename_i x i ho
    obtain ⟨y, hy, rfl⟩ := Option.map_eq_some_iff.1 hc
    simp only [SK.opnds, List.map_cons, List.map_nil] at he
    generalize hv : y.ev s = vx at he
    cases vx <;> simp only [effP] at he <;> try (cases he; done)
    split at he <;> try (cases he; done)
    rename_i u hnt hu
    simp only [Option.some.injEq, Prod.mk.injEq] at he
    obtain ⟨_, rfl⟩ := he
    exact ext_yld hs hy hv hu hnt ho
  · rename_i c ho
    split at hc
    · split at hc
      · split at hc
        · simp only [Option.some.injEq] at hc; subst hc; cases hk
        · cases hc
      · cases hc
    · rename_i hcal
      split at hc
      · rename_i x' y' hx
        simp only [Option.some.injEq] at hc; subst hc
        simp only [SK.opnds, List.map_cons, List.map_nil] at he
        generalize hv : x'.ev s = vx at he
        generalize hv' : y'.ev s = vy at he
        cases vx <;> cases vy <;> simp only [effP] at he <;> try (cases he; done)
        split at he
        · rename_i hkk
          subst hkk
          simp only [Option.some.injEq, Prod.mk.injEq] at he
          obtain ⟨_, rfl⟩ := he
          exact mx_yld (m := true) hs ho hcal hx hv hv'
        · cases he
      · cases hc
    · rename_i hcal
      split at hc
      · rename_i x' y' hx
        simp only [Option.some.injEq] at hc; subst hc
        simp only [SK.opnds, List.map_cons, List.map_nil] at he
        generalize hv : x'.ev s = vx at he
        generalize hv' : y'.ev s = vy at he
        cases vx <;> cases vy <;> simp only [effP] at he <;> try (cases he; done)
        split at he
        · rename_i hkk
          subst hkk
          simp only [Option.some.injEq, Prod.mk.injEq] at he
          obtain ⟨_, rfl⟩ := he
          exact mx_yld (m := false) hs ho hcal hx hv hv'
        · cases he
      · cases hc
    · cases hc
  · cases hc

/-- **Every operation does what is said of it.** -/
theorem op_sound {Γ : Gam} (hΓ : GamOk P Γ) {k : SK} (hc : cOp P o = some k) (hs : SimW n W s a w β σ) (hd : ∀ d, o.dst = some d → d < n) {p : Prop} {e : Eff} (he : eff Γ k (k.opnds.map (SO.ev s)) s.mem = some (p, e)) (hp : p)
    {lab : Nat} {s' : St} (happ : app lab o.dst s e = some s') (hK : ∀ a' w', Sim n W s' a' w' → K a' w') : o.wp P a w K Q := by
  by_cases hk : k.pure = true
  · simp only [eff, hk, if_true, Option.map_eq_some_iff] at he
    obtain ⟨⟨q, v⟩, hq, he⟩ := he
    simp only [Prod.mk.injEq] at he
    obtain ⟨rfl, rfl⟩ := he
    simp only [app, Option.some.injEq] at happ
    exact yld_sound hs hd (pure_yld hc hk hs hq hp) happ.symm hK
  · simp only [eff, hk, Bool.false_eq_true, if_false] at he
    unfold cOp at hc
    split at hc
    · obtain ⟨y, hy, rfl⟩ := Option.map_eq_some_iff.1 hc
      exact absurd rfl hk
    · obtain ⟨y, hy, rfl⟩ := Option.map_eq_some_iff.1 hc
      exact absurd rfl hk
    · split at hc <;> first | (cases hc; done) | (simp only [Option.some.injEq] at hc; subst hc; exact absurd rfl hk)
    · rename_i T x ho
      obtain ⟨y, hy, rfl⟩ := Option.map_eq_some_iff.1 hc
      simp only [SK.opnds, List.map_cons, List.map_nil, effM] at he
      split at he
      · rename_i h1
        simp only [Option.some.injEq, Prod.mk.injEq] at he
        obtain ⟨_, rfl⟩ := he
        simp only [app] at happ
        split at happ
        · rename_i hf
          simp only [Option.some.injEq] at happ
          subst happ
          exact box_sound hs hd hy h1 hf ho hK
        · cases happ
      · cases he
    · rename_i T ho
      split at hc
      · rename_i z hz
        simp only [Option.some.injEq] at hc; subst hc
        simp only [SK.opnds, List.map_nil, effM, Option.some.injEq, Prod.mk.injEq] at he
        obtain ⟨_, rfl⟩ := he
        simp only [app] at happ
        split at happ
        · rename_i hf
          simp only [Option.some.injEq] at happ
          subst happ
          exact alloc_sound hs hd hz hf ho hK
        · cases happ
      · cases hc
    · split at hc
      · split at hc
        · obtain ⟨qs, hq, rfl⟩ := Option.map_eq_some_iff.1 hc
          exact absurd rfl hk
        · cases hc
      · cases hc
    · rename_i T x ho
      split at hc
      · rename_i kk x' hkk hx
        simp only [Option.some.injEq] at hc; subst hc
        simp only [SK.opnds, List.map_cons, List.map_nil] at he
        generalize hv : x'.ev s = vx at he
        cases vx <;> simp only [effM, labOk, if_true] at he <;> try (cases he; done)
        split at he
        · rename_i T' cs hm
          obtain ⟨u, hu, he⟩ := Option.map_eq_some_iff.1 he
          simp only [Prod.mk.injEq] at he
          obtain ⟨_, rfl⟩ := he
          simp only [app, Option.some.injEq] at happ
          exact yld_sound hs hd (load_yld hs hx hv hm hkk hu ho) happ.symm hK
        · cases he
      · cases hc
    · rename_i T x y ho
      split at hc
      · rename_i i x' y' hi hx hy
        simp only [Option.some.injEq] at hc; subst hc
        simp only [SK.opnds, List.map_cons, List.map_nil] at he
        generalize hv : x'.ev s = vx at he
        cases vx <;> simp only [effM, labOk, if_true] at he <;> try (cases he; done)
        split at he
        · rename_i T' cs hm
          split at he
          · rename_i hcond
            simp only [Option.some.injEq, Prod.mk.injEq] at he
            obtain ⟨_, rfl⟩ := he
            simp only [app, Option.some.injEq] at happ
            subst happ
            exact store_sound hs hd hx hy hv hm hi hcond.1 hcond.2.1 hcond.2.2 ho hK
          · cases he
        · cases he
      · cases hc
    · split at hc
      · simp only [Option.some.injEq] at hc; subst hc; exact absurd rfl hk
      · split at hc <;> first | (cases hc; done) | (simp only [Option.some.injEq] at hc; subst hc; exact absurd rfl hk)
      · split at hc <;> first | (cases hc; done) | (simp only [Option.some.injEq] at hc; subst hc; exact absurd rfl hk)
      · cases hc
    · obtain ⟨y, hy, rfl⟩ := Option.map_eq_some_iff.1 hc
      exact absurd rfl hk
    · split at hc <;> first | (cases hc; done) | (simp only [Option.some.injEq] at hc; subst hc; exact absurd rfl hk)
    · split at hc
      · split at hc <;> first | (cases hc; done) | (simp only [Option.some.injEq] at hc; subst hc; exact absurd rfl hk)
      · cases hc
    · split at hc
      · split at hc
        · obtain ⟨kk, hkk, rfl⟩ := Option.map_eq_some_iff.1 hc
          exact absurd rfl hk
        · cases hc
      · cases hc
    · obtain ⟨y, hy, rfl⟩ := Option.map_eq_some_iff.1 hc
      exact absurd rfl hk
    · rename_i c ho
      split at hc
      · rename_i f hcal
        split at hc
        · rename_i fn xs hf hx
          split at hc
          · rename_i hcond
            simp only [Bool.and_eq_true, bne_iff_ne] at hcond
            simp only [Option.some.injEq] at hc; subst hc
            change effM Γ (.call f xs) (xs.map (SO.ev s)) s.mem = some (p, e) at he
            simp only [effM] at he
            split at he
            · rename_i h1
              obtain ⟨⟨q, r⟩, hq, he⟩ := Option.map_eq_some_iff.1 he
              simp only [Prod.mk.injEq] at he
              obtain ⟨rfl, rfl⟩ := he
              simp only [app, Option.some.injEq] at happ
              subst happ
              exact call_sound hΓ hs hd ho hcal hf hcond.1 hcond.2 hx h1 hq hp hK
            · cases he
          · cases hc
        · cases hc
      · split at hc <;> first | (cases hc; done) | (simp only [Option.some.injEq] at hc; subst hc; exact absurd rfl hk)
      · split at hc <;> first | (cases hc; done) | (simp only [Option.some.injEq] at hc; subst hc; exact absurd rfl hk)
      · cases hc
    · cases hc
end
end Go.Proofs.Ytjmkmcjpppdglaa.Sx
