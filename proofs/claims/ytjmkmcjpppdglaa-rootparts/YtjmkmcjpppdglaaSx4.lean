/- The symbolic walk is sound: the third part: memory, struct values, calls; every operation in one. -/
import Derived.Test.YtjmkmcjpppdglaaSx3
namespace Go.Proofs.Ytjmkmcjpppdglaa.Sx
open Go.RowKit

theorem setAt_eq : ∀ (vs cs : List SV) (o : Nat), o + vs.length ≤ cs.length → setAt cs o vs = cs.take o ++ vs ++ cs.drop (o + vs.length)
  | [], cs, o, _ => by simp [setAt]
  | v :: vs, cs, o, h => by
    simp only [List.length_cons] at h
    rw [setAt, setAt_eq vs (cs.set o v) (o + 1) (by simp; omega)]
    apply List.ext_getElem?
    intro k
    simp only [List.getElem?_append, List.length_append, List.length_take, List.length_set, List.getElem?_take, List.getElem?_drop, List.getElem?_set, List.length_cons]
    by_cases h1 : k < o
    · simp [h1, show k < o + 1 by omega, show min (o + 1) cs.length = o + 1 by omega, show min o cs.length = o by omega, show k < o + 1 + vs.length by omega, show k < o + (vs.length + 1) by omega, show ¬ o = k by omega]
    · by_cases h2 : k = o
      · subst h2
        simp [show min (k + 1) cs.length = k + 1 by omega, show min k cs.length = k by omega, show k < k + 1 + vs.length by omega, show k < cs.length by omega]
      · by_cases h3 : k < o + 1 + vs.length
        · simp [h1, h3, show ¬ k < o + 1 by omega, show min (o + 1) cs.length = o + 1 by omega, show min o cs.length = o by omega, show k < o + (vs.length + 1) by omega, show k - o = (k - (o + 1)) + 1 by omega]
        · simp [h3, show min (o + 1) cs.length = o + 1 by omega, show min o cs.length = o by omega, show ¬ k < o + (vs.length + 1) by omega, show ¬ o = o + 1 + vs.length + (k - (o + 1 + vs.length)) by omega]
          congr 1; omega
theorem setAt_len : ∀ (vs cs : List SV) (o : Nat), (setAt cs o vs).length = cs.length
  | [], cs, o => rfl
  | v :: vs, cs, o => by rw [setAt, setAt_len vs]; simp
theorem mem_setAt : ∀ (vs cs : List SV) (o : Nat) (c : SV), c ∈ setAt cs o vs → c ∈ cs ∨ c ∈ vs
  | [], cs, o, c, h => .inl h
  | v :: vs, cs, o, c, h => by
    rcases mem_setAt vs (cs.set o v) (o + 1) c h with h | h
    · rcases List.mem_or_eq_of_mem_set h with h | rfl
      · exact .inl h
      · exact .inr (List.mem_cons_self ..)
    · exact .inr (List.mem_cons_of_mem _ h)

section
variable {P : Program} {n : Nat} {W : World} {s : St} {a : Act} {w : World} {β : Nat → Nat} {σ : Nat → Sl} {o : Oper} {K : Act → World → Prop} {Q : Exit → Act → World → Prop}

theorem one_cell {v : SV} (h : v.one = true) : (den0 β σ v).oneCell' = true := by
  cases v <;> simp [SV.one] at h <;> rfl
theorem len_cells_den {v : SV} (h : v.cells.all SV.one = true) : (den β σ v).cells.size = v.cells.length := by
  rw [cells_den h]; simp
theorem lab_cells {v : SV} (h : v.cells.all SV.one = true) {c : SV} (hc : c ∈ v.cells) {d : Nat} (hd : d ∈ c.lab0) : d ∈ v.labs := by
  cases v
  case agg cs => simp only [SV.labs, SV.lab1, List.mem_flatMap]; exact ⟨c, hc, hd⟩
  case tup vs => simp [SV.cells, SV.one] at h
  all_goals
    simp only [SV.cells, List.mem_singleton] at hc
    subst hc
    exact hd
theorem ne_unk_cells {v : SV} (h : v.cells.all SV.one = true) : v ≠ .unk := by
  intro he; subst he; simp [SV.cells, SV.one] at h

theorem fold_set : ∀ (vs : List Value) (off k : Nat) (cs : Array Value), ((vs.zipIdx k).foldl (fun cs (p : Value × Nat) => cs.setIfInBounds (off + p.2) p.1) cs).toList = (vs.zipIdx k).foldl (fun l p => l.set (off + p.2) p.1) cs.toList
  | [], _, _, _ => rfl
  | v :: vs, off, k, cs => by
    simp only [List.zipIdx_cons, List.foldl_cons]
    rw [fold_set vs off (k + 1)]
    simp
theorem fold_setAt : ∀ (vs cs : List SV) (off k : Nat), ((vs.map (den0 β σ)).zipIdx k).foldl (fun (l : List Value) p => l.set (off + p.2) p.1) (cs.map (den0 β σ)) = (setAt cs (off + k) vs).map (den0 β σ)
  | [], cs, off, k => by simp [setAt]
  | v :: vs, cs, off, k => by
    simp only [List.map_cons, List.zipIdx_cons, List.foldl_cons, setAt]
    rw [Nat.add_assoc, ← fold_setAt vs (cs.set (off + k) v) off (k + 1)]
    simp
theorem fill_of (places : Nat → Option (Nat × Nat)) : ∀ (ps : List (Nat × Nat × Nat × SV)) (z cs : List SV), (∀ p ∈ ps, places p.1 = some (p.2.1, p.2.2.1)) →
    fillP z (ps.map fun p => (p.2.1, p.2.2.1)) (ps.map fun p => p.2.2.2) = some cs →
    Instr.fill places (z.map (den0 β σ)).toArray (ps.map fun p => (p.1, den β σ p.2.2.2)) = some (cs.map (den0 β σ)).toArray
  | [], z, cs, _, h => by simp [fillP] at h; subst h; simp [Instr.fill]
  | (i, o, m, v) :: ps, z, cs, hp, h => by
    simp only [List.map_cons, fillP] at h
    split at h
    · rename_i hc
      obtain ⟨h1, h2, h3⟩ := hc
      have ih := fill_of places ps (setAt z o v.cells) cs (fun p hp' => hp p (List.mem_cons_of_mem _ hp')) h
      have hpl := hp _ (List.mem_cons_self ..)
      simp only at hpl
      simp only [List.map_cons, Instr.fill, hpl]
      rw [if_neg (by rw [len_cells_den h3]; simp [h1]; omega)]
      rw [cells_den h3]
      have e : ((v.cells.map (den0 β σ)).toArray.zipIdx.foldl (fun cs (p : Value × Nat) => cs.setIfInBounds (o + p.2) p.1) (z.map (den0 β σ)).toArray) = ((setAt z o v.cells).map (den0 β σ)).toArray := by
        apply Array.ext'
        have e1 := fold_set (v.cells.map (den0 β σ)) o 0 (z.map (den0 β σ)).toArray
        have e2 := fold_setAt (β := β) (σ := σ) v.cells z o 0
        simp only [Nat.add_zero] at e2
        rw [← e2]
        simpa using e1
      exact (congrArg (fun x => Instr.fill places x _) e).trans ih
    · cases h

theorem fillP_ne : ∀ (ps : List (Nat × Nat)) (vs z cs : List SV), fillP z ps vs = some cs → ∀ v ∈ vs, v.cells.all SV.one = true
  | [], [], z, cs, h => by simp
  | [], v :: vs, z, cs, h => by simp [fillP] at h
  | _ :: _, [], z, cs, h => by simp [fillP] at h
  | (o, m) :: ps, v :: vs, z, cs, h => by
    simp only [fillP] at h
    split at h
    · rename_i hc
      intro u hu
      rcases List.mem_cons.1 hu with rfl | hu
      · exact hc.2.2
      · exact fillP_ne ps vs _ cs h u hu
    · cases h
theorem fillP_mem : ∀ (ps : List (Nat × Nat)) (vs z cs : List SV), fillP z ps vs = some cs → ∀ c ∈ cs, c ∈ z ∨ ∃ v ∈ vs, c ∈ v.cells
  | [], [], z, cs, h => by simp [fillP] at h; subst h; exact fun c hc => .inl hc
  | [], v :: vs, z, cs, h => by simp [fillP] at h
  | _ :: _, [], z, cs, h => by simp [fillP] at h
  | (o, m) :: ps, v :: vs, z, cs, h => by
    simp only [fillP] at h
    split at h
    · intro c hc
      rcases fillP_mem ps vs _ cs h c hc with h' | ⟨u, hu, hcu⟩
      · rcases mem_setAt _ _ _ _ h' with h' | h'
        · exact .inl h'
        · exact .inr ⟨v, List.mem_cons_self .., h'⟩
      · exact .inr ⟨u, List.mem_cons_of_mem _ hu, hcu⟩
    · cases h

theorem parts_of (hs : SimW n W s a w β σ) (fs : Array Field) : ∀ (ps : List (Nat × Operand)) (qs : List (Nat × Nat × SO)), ps.mapM (cPart P fs) = some qs → (∀ q ∈ qs, (q.2.2.ev s).cells.all SV.one = true) →
    ∃ L : List (Nat × Nat × Nat × SV), (qs.map fun q => (q.1, q.2.1)) = (L.map fun p => (p.2.1, p.2.2.1)) ∧ ((qs.map (·.2.2)).map (SO.ev s)) = (L.map fun p => p.2.2.2) ∧
      (ps.map fun p => (p.1, a.eval p.2)) = (L.map fun p => (p.1, den β σ p.2.2.2)) ∧ (∀ p ∈ L, place P fs p.1 = some (p.2.1, p.2.2.1)) ∧ ∀ q ∈ qs, ∀ d ∈ (q.2.2.ev s).labs, (s.mem d).isFresh = false
  | [], qs, h, _ => by simp at h; subst h; exact ⟨[], by simp⟩
  | (i, x) :: ps, qs, h, hq => by
    simp only [List.mapM_cons, Option.bind_eq_bind, Option.pure_def, Option.bind_eq_some_iff] at h
    obtain ⟨⟨o, m, y⟩, h1, qs', h2, he⟩ := h
    simp only [Option.some.injEq] at he
    subst he
    obtain ⟨L, e1, e2, e3, e4, e5⟩ := parts_of hs fs ps qs' h2 (fun q hq' => hq q (List.mem_cons_of_mem _ hq'))
    simp only [cPart] at h1
    split at h1
    · rename_i o' m' y' hpl hy
      simp only [Option.some.injEq, Prod.mk.injEq] at h1
      obtain ⟨rfl, rfl, rfl⟩ := h1
      have hone := hq _ (List.mem_cons_self ..)
      have hev := eval_of hs hy (ne_unk_cells hone)
      refine ⟨(i, o', m', y'.ev s) :: L, by simp [e1], by simp [e2], by simp [e3, hev], fun p hp => ?_, fun q hq' => ?_⟩
      · rcases List.mem_cons.1 hp with rfl | hp
        · exact hpl
        · exact e4 p hp
      · rcases List.mem_cons.1 hq' with rfl | hq'
        · exact labs_of hs hy
        · exact e5 q hq'
    · cases h1

theorem places_of : ∀ (fs : List Field), (fs.all fun f => (P.info? f.type).isSome) = true → ∃ pl : List (Nat × Nat), fs.mapM (fun f => (P.info? f.type).map fun i => (f.offset, i.size)) = some pl ∧
    ∀ i : Nat, pl[i]? = fs[i]?.bind fun (f : Field) => (P.info? f.type).map fun j => (f.offset, j.size)
  | [], _ => ⟨[], by simp, by simp⟩
  | f :: fs, h => by
    simp only [List.all_cons, Bool.and_eq_true] at h
    obtain ⟨pl, h1, h2⟩ := places_of fs h.2
    obtain ⟨i, hi⟩ := Option.isSome_iff_exists.1 h.1
    refine ⟨(f.offset, i.size) :: pl, by simp [hi, h1], fun j => ?_⟩
    cases j with
    | zero => simp [hi]
    | succ j => simpa using h2 j

theorem zero_of {T : TypeId} {z : List SV} (h : ((P.info? T).bind (·.zero)).bind cellsSV = some z) : ∃ it zv, P.info? T = some it ∧ it.zero = some zv ∧ zv.cells = (z.map (den0 β σ)).toArray ∧ ∀ c ∈ z, c.lab0 = [] ∧ c.one = true := by
  cases hi : P.info? T with
  | none => simp [hi] at h
  | some it =>
    cases hz : it.zero with
    | none => simp [hi, hz] at h
    | some zv =>
      simp [hi, hz, cellsSV] at h
      obtain ⟨e1, e2⟩ := mapM_svOf0_den h β σ
      exact ⟨it, zv, rfl, hz, by rw [e1], e2⟩

theorem build_yld (hs : SimW n W s a w β σ) {T : TypeId} {ps : Array (Nat × Operand)} {fs : Array Field} {z : List SV} {qs : List (Nat × Nat × SO)} (ho : o.op = .build T ps) (hT : P.underlying T = some (.struct fs))
    (hz : ((P.info? T).bind (·.zero)).bind cellsSV = some z) (hall : (fs.toList.all fun f => (P.info? f.type).isSome) = true) (hq : ps.toList.mapM (cPart P fs) = some qs) {cs : List SV}
    (hf : fillP z (qs.map fun p => (p.1, p.2.1)) ((qs.map (·.2.2)).map (SO.ev s)) = some cs) : Yld P s a w β σ o (.agg cs) := by
  have hne := fillP_ne _ _ _ _ hf
  obtain ⟨L, e1, e2, e3, e4, e5⟩ := parts_of (P := P) hs fs ps.toList qs hq (fun q hq' => hne _ (List.mem_map.2 ⟨q.2.2, List.mem_map.2 ⟨q, hq', rfl⟩, rfl⟩))
  obtain ⟨it, zv, hi, hzv, hcells, hzl⟩ := zero_of (P := P) (β := β) (σ := σ) hz
  obtain ⟨pl, hpl, hget⟩ := places_of (P := P) fs.toList hall
  rw [e1, e2] at hf
  have hfill := fill_of (β := β) (σ := σ) (fun i => pl.toArray[i]?) L z cs (fun p hp => by
    have := e4 p hp
    simp only [place] at this
    rw [List.getElem?_toArray, hget]
    simpa using this) hf
  have hb : P.built T (ps.toList.map fun p => (p.1, a.eval p.2)) = some (cs.map (den0 β σ)).toArray := by
    unfold Program.built
    simp only [hi, hT, hzv, hpl, hcells, e3]
    exact hfill
  refine ⟨.agg (cs.map (den0 β σ)).toArray, ?_, .inr rfl, fun d hd => ?_⟩
  · have hr := run_build (P := P) w T (ps.map fun (p : Nat × Operand) => (p.1, a.eval p.2)) _ (by simpa using hb)
    simp only [execOp, ho, Sem.run_bind]
    rw [show (Array.map (fun x : Nat × Operand => match x with | (i, x) => (i, a.eval x)) ps) = ps.map fun (p : Nat × Operand) => (p.1, a.eval p.2) from rfl, hr]
    rfl
  · simp only [SV.labs, SV.lab1, List.mem_flatMap] at hd
    obtain ⟨c, hc, hd⟩ := hd
    have hf' := hf
    rw [← e1, ← e2] at hf'
    rcases fillP_mem _ _ _ _ hf' c hc with h | ⟨v, hv, hcv⟩
    · rw [(hzl c h).1] at hd; cases hd
    · have hv1 := hne v hv
      obtain ⟨y, hy, rfl⟩ := List.mem_map.1 hv
      obtain ⟨q, hq', rfl⟩ := List.mem_map.1 hy
      exact e5 q hq' d (lab_cells hv1 hcv hd)
end
end Go.Proofs.Ytjmkmcjpppdglaa.Sx
