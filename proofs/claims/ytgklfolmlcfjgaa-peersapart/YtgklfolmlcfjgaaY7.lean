/- The second walk is sound: the operations that make or write memory. -/
import Derived.Test.YtgklfolmlcfjgaaY6
namespace Go.Proofs.Ytgklfolmlcfjgaa.Y
open Go.RowKit
set_option linter.unusedSimpArgs false
set_option linter.unusedVariables false
section
variable {P : Program} {n : Nat} {W : Wd} {A0 : Nat → Prop} {s : St} {a : Act} {w : World} {β : Nat → Nat} {σ : Nat → Sl} {o : Oper} {K : Act → World → Prop} {Q : Exit → Act → World → Prop}

theorem upd_self {α : Type} (f : Nat → α) (d : Nat) : upd f d (f d) = f := by
  funext t
  by_cases h : t = d <;> simp [upd, h]
theorem tup0 {E : Env} : Is E (.tup []) undef := .tup [] [] rfl (by simp)
theorem toList_cells (v : Value) : v.cells.toList.toArray = v.cells := by simp

theorem box_sound (hs : SimW n W A0 s a w β σ) (hd : ∀ d, o.dst = some d → W.okd n d) {T : TypeId} {x : Operand} {x' : SO} (hx : cO x = some x') (h1 : (x'.ev s).cells.all SV.one = true) {lab : Nat} (hf : (s.mem lab).isFresh = true) (ho : o.op = .box T x)
    (hK : ∀ a' w', Sim n W A0 ((s.setm lab (.var T (x'.ev s).cells)).put o.dst (.ptr lab 0)) a' w' → K a' w') : o.wp P a w K Q := by
  have ax := eval_of hs hx (ne_unk_cells h1)
  obtain ⟨β', σ', hs', hi⟩ := new_var hs lab T _ _ hf (ax.cells h1).u
  have hr : (execOp a.eval o).run P w = .ok (.value (.pointer (some ⟨w.heap.size, 0, none⟩))) (w.alloc (.cells (a.eval x).cells.toList.toArray T)) := by
    simp only [execOp, ho, Instr.box, newVar, newRow, Sem.run_bind, run_newObj, Result.andThen_ok, Sem.run_pure, toList_cells]
    rfl
  unfold Oper.wp
  rw [hr]
  exact hK _ _ ⟨β', σ', hs'.put o.dst hd (.inr hi)⟩
theorem alloc_sound (hs : SimW n W A0 s a w β σ) (hd : ∀ d, o.dst = some d → W.okd n d) {T : TypeId} {z : List SV} (hz : ((P.info? T).bind (·.zero)).bind cellsSV = some z) {lab : Nat} (hf : (s.mem lab).isFresh = true) (ho : o.op = .alloc T)
    (hK : ∀ a' w', Sim n W A0 ((s.setm lab (.var T z)).put o.dst (.ptr lab 0)) a' w' → K a' w') : o.wp P a w K Q := by
  obtain ⟨it, zv, hi, hzv, hcells, hzl⟩ := zero_of (P := P) (E := env A0 s w β σ) hz
  obtain ⟨β', σ', hs', hi'⟩ := new_var hs lab T _ _ hf hcells.u
  have hr : (execOp a.eval o).run P w = .ok (.value (.pointer (some ⟨w.heap.size, 0, none⟩))) (w.alloc (.cells zv.cells.toList.toArray T)) := by
    simp only [execOp, ho, Instr.alloc, zeroValue, typeInfo, newVar, newRow, Sem.run_bind, run_program, hi, hzv, run_newObj, Result.andThen_ok, Sem.run_pure, toList_cells]
    rfl
  unfold Oper.wp
  rw [hr]
  exact hK _ _ ⟨β', σ', hs'.put o.dst hd (.inr hi')⟩
theorem store_sound (hs : SimW n W A0 s a w β σ) (hdst : ∀ d, o.dst = some d → W.okd n d) {T : TypeId} {x y : Operand} {x' y' : SO} (hx : cO x = some x') (hy : cO y = some y') {d off T' : Nat} (ex : x'.ev s = .ptr d off) {cs : List SV} (hm : s.mem d = .var T' cs) {i : TypeInfo} (hi : P.info? T = some i)
    (hl : (y'.ev s).cells.length = i.size) (hle : off + i.size ≤ cs.length) (h1 : (y'.ev s).cells.all SV.one = true) (ho : o.op = .store T x y)
    (hK : ∀ a' w', Sim n W A0 ((s.setm d (.var T' (setAt cs off (y'.ev s).cells))).put o.dst (.tup [])) a' w' → K a' w') : o.wp P a w K Q := by
  have ax := eval_of hs hx (by simp [ex])
  rw [ex] at ax
  have ax' : a.eval x = .pointer (some ⟨β d, off, none⟩) := ax.ptr_inv.1
  have ay := eval_of hs hy (ne_unk_cells h1)
  have hcl := ay.cells h1
  obtain ⟨vs, hh, hall, _⟩ := var_cells hs hm
  have hbd : W.mine (β d) := by have := hs.mem d; rw [hm] at this; exact this.1
  have hus : (a.eval y).cells.toList.length = i.size := by rw [hcl.1]; exact hl
  have hst := run_storeCells_at P (β d) off T' (a.eval y).cells.toList 0 vs.toArray w hh (by have := hall.1; simp [hus]; simp at hus; omega) (fun v hv => by
    obtain ⟨j, hj, rfl⟩ := List.getElem_of_mem hv
    have hj' : j < (y'.ev s).cells.length := by rw [← hcl.1]; exact hj
    exact (hcl.2 j _ _ (List.getElem?_eq_getElem hj') (List.getElem?_eq_getElem hj)).one_cell ((List.all_eq_true.1 h1) _ (List.getElem_mem hj')))
  simp only [Nat.add_zero] at hst
  have hset := setAt_allU (o := off) (by omega) hcl hall
  have hsz : (sizeOf T).run P w = .ok i.size w := by simp [sizeOf, typeInfo, hi]
  have hus' : (a.eval y).cells.size = i.size := by simpa using hus
  have hr : (execOp a.eval o).run P w = .ok .skip (w.setRow (β d) (vs.take off ++ (a.eval y).cells.toList ++ vs.drop (off + (a.eval y).cells.toList.length)).toArray) := by
    simp only [execOp, ho, ax', Instr.storeAt, Instr.sureAddr, Sem.run_bind, Sem.run_pure, Result.andThen_ok, storeVar, hsz, Sem.run_ite, hus', ne_eq, not_true_eq_false, if_false, hst]
  unfold Oper.wp
  rw [hr]
  have h := hs.one d (.var T' (setAt cs off (y'.ev s).cells)) (w.setRow (β d) (vs.take off ++ (a.eval y).cells.toList ++ vs.drop (off + (a.eval y).cells.toList.length)).toArray) (β d) (σ d)
    (hs.bel.next rfl rfl rfl (by rw [setRow_size]; exact Nat.le_refl _) (fun k hk hx => setRow_other w (β d) k _ (fun he => Wd.not_mine hk hx (by first | (rw [he]; exact hbd) | (rw [← he]; exact hbd)))))
    (fun c hc => by rw [hm] at hc; simp [Cel.ver] at hc; subst hc; exact ⟨0, rfl, Nat.le_refl _, rfl, fun _ => rfl⟩)
    (fun b hb hne => setRow_other w (β d) b _ (fun he => hne (by rw [hm, he]; rfl))) (by rw [setRow_size]; exact Nat.le_refl _)
    (fun b hb => by rw [upd_self, upd_self] at hb; rw [hm]; exact .inl hb)
  rw [upd_self, upd_self] at h
  have h' := h fun hle' => ⟨hbd, _, setRow_heap w (β d) _ _ T' (0, 0) hh, hset.mono hle' fun _ _ => trivial⟩
  exact hK _ _ ⟨β, σ, h'.2.put o.dst hdst (.inr tup0)⟩

/-- Stores into a block whose mark lies behind its cells. -/
theorem run_storeCells_atM (P : Program) (g o : Nat) (t : TypeId) (fz : Nat × Nat) : ∀ (vs : List Value) (i : Nat) (cur : Array Value) (w : World), w.heap[g]? = some (.cells cur t fz) → (fz = (0, 0) ∨ cur.size ≤ fz.1) → o + i + vs.length ≤ cur.size → (∀ v ∈ vs, v.oneCell' = true) →
    (storeCells ⟨g, o, none⟩ vs i).run P w = .ok () (w.setRow g (cur.toList.take (o + i) ++ vs ++ cur.toList.drop (o + i + vs.length)).toArray)
  | [], i, cur, w, hg, _, _, _ => by
    simp only [storeCells, List.append_nil, List.length_nil, Nat.add_zero, List.take_append_drop, Array.toArray_toList]
    rw [setRow_self w g cur t fz hg]
    rfl
  | v :: rest, i, cur, w, hg, hfz, hl, h1 => by
    have hi : o + i < cur.size := by simp at hl; omega
    have hadd : (⟨g, o, none⟩ : Addr).add i = ⟨g, o + i, none⟩ := by unfold Addr.add; split <;> simp_all
    have hcell : w.cell? ⟨g, o + i, none⟩ = some cur[o + i] := by simp [World.cell?, hg, hi]
    have hfro : w.frozen? ⟨g, o + i, none⟩ = false := by
      obtain ⟨lo, hi'⟩ := fz
      simp only [World.frozen?, hg, Bool.and_eq_false_iff, decide_eq_false_iff_not]
      rcases hfz with h | h
      · cases h; right; omega
      · left; simp only at h; omega
    have hst : (store ((⟨g, o, none⟩ : Addr).add i) v).run P w = .ok () (w.setRow g (cur.setIfInBounds (o + i) v)) := by
      rw [hadd, run_store P w _ v _ (h1 v (by simp)), hcell]
      simp [hfro, setCell_eq_setRow w g (o + i) cur t fz v hg]
    have ih := run_storeCells_atM P g o t fz rest (i + 1) (cur.setIfInBounds (o + i) v) (w.setRow g (cur.setIfInBounds (o + i) v)) (setRow_heap w g cur _ t _ hg) (by simpa using hfz) (by simp at hl ⊢; omega) (fun x hx => h1 x (by simp [hx]))
    simp only [storeCells, Sem.run_bind, hst, Result.andThen_ok, ih, setRow_setRow]
    congr 3
    have e := list_seg_step cur.toList (o + i) v rest (by simp at hl ⊢; omega)
    simpa [Array.toList_setIfInBounds, Nat.add_assoc] using e
theorem take_mid {cur us : List Value} {p N : Nat} (h : p + us.length ≤ N) (hN : N ≤ cur.length) : (cur.take p ++ us ++ cur.drop (p + us.length)).take N = (cur.take N).take p ++ us ++ (cur.take N).drop (p + us.length) := by
  have hp : (cur.take p).length = p := by simp; omega
  have e1 : (cur.take p).take N = cur.take p := by rw [List.take_take, Nat.min_eq_right (by omega)]
  have e2 : us.take (N - p) = us := List.take_of_length_le (by omega)
  have e3 : (cur.drop (p + us.length)).take (N - p - us.length) = (cur.take N).drop (p + us.length) := by rw [List.drop_take]; congr 1; omega
  have e4 : (cur.take N).take p = cur.take p := by rw [List.take_take, Nat.min_eq_left (by omega)]
  rw [List.append_assoc, List.take_append, hp, e1, List.take_append, e2, e3, e4, List.append_assoc]
theorem storeE_sound (hs : SimW n W A0 s a w β σ) (hdst : ∀ d, o.dst = some d → W.okd n d) {T : TypeId} {x y : Operand} {x' : SO} {u : SV} (hx : cO x = some x') {d g e ii oo : Nat} {r r' : Row SV} (ex : x'.ev s = .elem d g r.size ii oo) (hm : s.mem d = .row g e r) {i : TypeInfo} (hi : P.info? T = some i)
    (hl : u.cells.length = i.size) (h1 : u.cells.all SV.one = true) (ay : Is (env A0 s w β σ) u (a.eval y)) (hlt : ii < r.len) (hp : r.put ii oo u.cells = some r') (ho : o.op = .store T x y)
    (hK : ∀ a' w', Sim n W A0 ((s.setm d (.row g e r')).put o.dst (.tup [])) a' w' → K a' w') : o.wp P a w K Q := by
  have ax := eval_of hs hx (by simp [ex])
  rw [ex] at ax
  have hrow : rowAt s.mem (.sl d g) = some r := by simp [rowAt, hm]
  obtain ⟨b, q, c, _, e1, e2, e3, _, _⟩ := elem_addr hs ax hrow hlt
  have hcl := ay.cells h1
  have hc := hs.mem d
  rw [hm] at hc
  obtain ⟨hw, hmn, vs, hown, hall⟩ := hc
  have hown' : ownsM w e r.size (σ d).val r.len vs := hown
  obtain ⟨p1, p2, p3, p4, p5⟩ := Row.put_spec hw h1 hlt hp
  rcases hown'.2 with ⟨h0, _⟩ | ⟨b', cap, cur, fz, f1, f3, fzz, f4, f5, f6, f7⟩
  · rw [h0] at e2; cases e2
  rw [e2] at f1
  simp only [Value.slice.injEq, Option.some.injEq, Addr.mk.injEq, and_true, true_and] at f1
  obtain ⟨⟨rfl, rfl⟩, rfl⟩ := f1
  have hus : (a.eval y).cells.toList.length = u.cells.length := hcl.1
  have hpos : ii * r.size + oo + (a.eval y).cells.toList.length ≤ r.len * r.size := by
    rw [hus]
    have : (ii + 1) * r.size ≤ r.len * r.size := Nat.mul_le_mul_right _ hlt
    rw [Nat.succ_mul] at this
    omega
  have hcap : r.len * r.size ≤ cur.toList.length := by
    rw [Array.length_toList, f6]; exact Nat.mul_le_mul_right _ f4
  have hbm : W.mine b := hmn b (by simp only [env, e2]; rfl)
  have hst := run_storeCells_atM P b (ii * r.size + oo) (e % 1000000) fz (a.eval y).cells.toList 0 cur w f3 (fzz.imp (fun h => h.2) (fun h => h.2)) (by have := hcap; rw [Array.length_toList] at this; omega) (fun v hv => by
    obtain ⟨j, hj, rfl⟩ := List.getElem_of_mem hv
    have hj' : j < u.cells.length := by rw [← hcl.1]; exact hj
    exact (hcl.2 j _ _ (List.getElem?_eq_getElem hj') (List.getElem?_eq_getElem hj)).one_cell ((List.all_eq_true.1 h1) _ (List.getElem_mem hj')))
  simp only [Nat.add_zero] at hst
  have hset := setAt_all (o := ii * r.size + oo) (by rw [Row.cells_len hw, ← hus]; exact hpos) hcl hall
  have hsz : (sizeOf T).run P w = .ok i.size w := by simp [sizeOf, typeInfo, hi]
  have hus' : (a.eval y).cells.size = i.size := by rw [← hl, ← hus]; simp
  simp only [Nat.zero_add] at e1
  have hr : (execOp a.eval o).run P w = .ok .skip (w.setRow b (cur.toList.take (ii * r.size + oo) ++ (a.eval y).cells.toList ++ cur.toList.drop (ii * r.size + oo + (a.eval y).cells.toList.length)).toArray) := by
    simp only [execOp, ho, e1, Instr.storeAt, Instr.sureAddr, Sem.run_bind, Sem.run_pure, Result.andThen_ok, storeVar, hsz, Sem.run_ite, hus', ne_eq, not_true_eq_false, if_false, hst]
  unfold Oper.wp
  rw [hr]
  have hblk : wblk β σ d (s.mem d) = some b := by rw [hm]; simp only [wblk, e2]; rfl
  have h := hs.one d (.row g e r') (w.setRow b (cur.toList.take (ii * r.size + oo) ++ (a.eval y).cells.toList ++ cur.toList.drop (ii * r.size + oo + (a.eval y).cells.toList.length)).toArray) (β d) (σ d)
    (hs.bel.next rfl rfl rfl (by rw [setRow_size]; exact Nat.le_refl _) (fun k hk hx => setRow_other w b k _ (fun he => Wd.not_mine hk hx (by first | (rw [he]; exact hbm) | (rw [← he]; exact hbm)))))
    (fun c hc => by rw [hm] at hc; simp [Cel.ver] at hc; subst hc; exact ⟨g, rfl, Nat.le_refl _, rfl, fun _ => rfl⟩)
    (fun k hk hne => setRow_other w b k _ (fun he => hne (by rw [hblk, he]))) (by rw [setRow_size]; exact Nat.le_refl _)
    (fun k hk => by rw [upd_self, upd_self] at hk; rw [hblk]; simp only [wblk, e2] at hk; exact .inl hk)
  rw [upd_self, upd_self] at h
  have h' := h fun hle' => by
    refine ⟨p1, hmn, _, ?_, (by rw [p5]; exact hset.mono hle' fun _ _ => trivial)⟩
    show ownsM (w.setRow b _) e r'.size (σ d).val r'.len _
    rw [p2, p3, e2]
    have hcs : (cur.toList.take (ii * r.size + oo) ++ (a.eval y).cells.toList ++ cur.toList.drop (ii * r.size + oo + (a.eval y).cells.toList.length)).toArray.size = cur.size := by
      simp only [List.size_toArray, List.length_append, List.length_take, List.length_drop]
      rw [Array.length_toList] at hcap ⊢
      omega
    refine ⟨?_, .inr ⟨b, c, _, fz, rfl, setRow_heap w b cur _ (e % 1000000) fz f3, by rw [hcs]; exact fzz, f4, f5, ?_, ?_⟩⟩
    · have := hset.1
      rw [this, setAt_len, Row.cells_len hw]
    · rw [hcs]; exact f6
    · rw [show (cur.toList.take (ii * r.size + oo) ++ (a.eval y).cells.toList ++ cur.toList.drop (ii * r.size + oo + (a.eval y).cells.toList.length)).toArray.toList = _ from rfl, take_mid hpos hcap, f7]
  exact hK _ _ ⟨β, σ, h'.2.put o.dst hdst (.inr tup0)⟩

theorem nilrow_sound (hs : SimW n W A0 s a w β σ) (hd : ∀ d, o.dst = some d → W.okd n d) {x : Operand} (hx : isNil x = true) {e : Nat} {r : Row SV} (hr0 : row0 P e = some r) {lab : Nat} (hf : (s.mem lab).isFresh = true) (ho : o.op = .move x ∨ o.op = .assign x)
    (hK : ∀ a' w', Sim n W A0 ((s.setm lab (.row 0 e r)).put o.dst (.sl lab 0)) a' w' → K a' w') : o.wp P a w K Q := by
  obtain ⟨i, _, _, _, h0, hc, hw⟩ := row0_spec hr0
  have hev : a.eval x = .slice none 0 0 := by
    unfold isNil at hx
    split at hx
    · rfl
    · cases hx
  obtain ⟨_, hs', hi⟩ := new_row (w' := w) hs lab e r [] ⟨none, 0, 0⟩ hf (Below.refl _ _) hw (fun b hb => by simp [Sl.val, Value.ownBlock] at hb) (by rw [h0]; exact ownsM_of (row0_lt hr0) (World.ownsRow_nil w 0 e r.size)) (fun _ => by rw [hc]; exact All.nil)
  have hr : (execOp a.eval o).run P w = .ok (.value (.slice none 0 0)) w := by rcases ho with ho | ho <;> simp only [execOp, ho, hev] <;> rfl
  unfold Oper.wp
  rw [hr]
  exact hK _ _ ⟨_, _, hs'.put o.dst hd (.inr hi)⟩

/-- Zeros. -/
theorem rep_get (z : List SV) : ∀ (k j : Nat), (List.replicate k z).flatten[j]? = if j < k * z.length then z[j % z.length]? else none
  | 0, j => by simp
  | k + 1, j => by
    rw [List.replicate_succ, List.flatten_cons, List.getElem?_append, rep_get z k]
    rw [Nat.succ_mul]
    by_cases h : j < z.length
    · rw [if_pos h, if_pos (by omega), Nat.mod_eq_of_lt h]
    · rw [if_neg h]
      by_cases h2 : j < k * z.length + z.length
      · rw [if_pos (by omega), if_pos h2, ← Nat.mod_eq_sub_mod (by omega)]
      · rw [if_neg (by omega), if_neg h2]
theorem zeros_all {E : Env} {z : List SV} {zv : Array Value} (h : All E z zv.toList) (hz : 0 < z.length) (k : Nat) : All E (List.replicate k z).flatten ((Array.range (k * z.length)).map fun j => zv[j % zv.size]!).toList := by
  have hsz : zv.size = z.length := by have := h.1; simpa using this
  refine ⟨by simp, fun j x u hx hu => ?_⟩
  rw [rep_get] at hx
  split at hx
  · rename_i hj
    have hmod : j % z.length < z.length := Nat.mod_lt _ hz
    simp [hj] at hu
    have hm2 : j % zv.size < zv.size := by rw [hsz]; exact hmod
    refine h.2 (j % z.length) x u hx ?_
    rw [← hu, ← hsz]
    simp [hm2]
  · cases hx
theorem lit_core (hs : SimW n W A0 s a w β σ) (hd : ∀ d, o.dst = some d → W.okd n d) {t e : TypeId} {len : Nat} {ps : Array (Nat × Operand)} {z : List SV} {j : TypeInfo} {r0 : Row SV} (ho : o.op = .buildSlice t len ps) (hu : P.underlying t = some (.slice e))
    (hz : ((P.info? e).bind (·.zero)).bind cellsSV = some z) (hj : P.info? e = some j) (hr0 : row0 P e = some r0) (hzl : z.length = j.size) (hl : len * j.size ≤ 1000) {cs : List SV} (L : List (Nat × Nat × Nat × SV × Value))
    (e3 : (ps.toList.map fun p => (p.1, a.eval p.2)) = (L.map fun p => (p.1, p.2.2.2.2))) (e4 : ∀ p ∈ L, some (p.1 * j.size, j.size) = some (p.2.1, p.2.2.1)) (e5 : ∀ p ∈ L, Is (env A0 s w β σ) p.2.2.2.1 p.2.2.2.2)
    (hf : fillP (List.replicate len z).flatten (L.map fun p => (p.2.1, p.2.2.1)) (L.map fun p => p.2.2.2.1) = some cs) {r : Row SV} (hr : mkRow r0 len cs = some r) {lab : Nat} (hfr : (s.mem lab).isFresh = true)
    (hK : ∀ a' w', Sim n W A0 ((s.setm lab (.row 0 e r)).put o.dst (.sl lab 0)) a' w' → K a' w') : o.wp P a w K Q := by
  obtain ⟨j', hj', hjs, hj0, _⟩ := row0_spec hr0
  rw [hj] at hj'; cases hj'
  obtain ⟨it, zv, hi, hzv, hcells, hzo⟩ := zero_of (P := P) (E := env A0 s w β σ) hz
  rw [hj] at hi; cases hi
  have hflen : cs.length = len * z.length := by
    rw [fillP_len _ _ _ _ hf]
    simp
  have hone : cs.all SV.one = true := fillP_one _ _ _ _ (by
    rw [List.all_eq_true] at hzo ⊢
    intro x hx
    obtain ⟨c, hc, hx⟩ := List.mem_flatten.1 hx
    rw [List.eq_of_mem_replicate hc] at hx
    exact hzo x hx) hf
  obtain ⟨m1, m2, m3, m4⟩ := mkRow_spec hone (by rw [hflen, hzl, hjs]) hr
  have hzall := zeros_all hcells (by omega) len
  obtain ⟨cv, hfill, hcv⟩ := fill_of (fun i => some (i * j.size, j.size)) L _ cs _ e4 e5 hzall hf
  have hcvl : cv.length = len * j.size := by rw [hcv.1, hflen, hzl]
  have hrun : (execOp a.eval o).run P w = .ok (.value (.slice (some ⟨w.heap.size, 0, none⟩) len len)) (w.alloc (.cells cv.toArray e)) := by
    have hsmall : ¬ len * j.size > 2 ^ 24 := by omega
    have hmap : (Array.map (fun x : Nat × Operand => match x with | (i, x) => (i, a.eval x)) ps) = ps.map fun (p : Nat × Operand) => (p.1, a.eval p.2) := rfl
    have hlist : (ps.map fun (p : Nat × Operand) => (p.1, a.eval p.2)).toList = L.map fun p => (p.1, p.2.2.2.2) := by rw [Array.toList_map, e3]
    simp only [execOp, ho, Sem.run_bind, hmap]
    by_cases hpos : len * j.size = 0
    · have hcv0 : cv = [] := List.eq_nil_of_length_eq_zero (by omega)
      subst hcv0
      have hzz : ((Array.range (len * z.length)).map fun i => zv.cells[i % zv.cells.size]!).toList.toArray = (#[] : Array Value) := by rw [hzl, hpos]; simp
      rw [hzz] at hfill
      have hfill' : Instr.fill (fun i => some (i * j.size, j.size)) #[] (ps.map fun (p : Nat × Operand) => (p.1, a.eval p.2)).toList = some #[] := by rw [hlist]; exact hfill
      have hz0 : ∀ f : Nat → Value, (Array.range 0).map f = #[] := fun f => by apply Array.ext <;> simp
      rw [Array.toList_map] at hfill'
      simp [Instr.buildSlice, run_underlying hu, sizeOf, typeInfo, hj, hpos, hz0, hfill', newRow, zeroValue]
    · have hh : Instr.fill (fun i => some (i * j.size, j.size)) ((Array.range (len * j.size)).map (fun i => zv.cells[i % zv.cells.size]!)) (ps.map fun (p : Nat × Operand) => (p.1, a.eval p.2)).toList = some cv.toArray := by
        rw [hlist, ← hfill, hzl, Array.toArray_toList]
      rw [run_buildSlice (P := P) w t e len (ps.map fun (p : Nat × Operand) => (p.1, a.eval p.2)) _ j zv hu hj hzv hsmall hpos hh]
      rfl
  have hown := World.ownsRow_lit (base := w.heap.size) (e := e) (size := j.size) w cv.toArray len (Nat.le_refl _) (by
    have : len ≤ len * j.size := Nat.le_mul_of_pos_right _ hj0
    simp only [maxLen]; omega) (by simp [hcvl])
  have hbel : Below w.heap.size w (w.alloc (.cells cv.toArray e)) := (Below.refl _ _).alloc (Nat.le_refl _) _
  obtain ⟨_, hs', hi'⟩ := new_row hs lab e r cv ⟨some ⟨w.heap.size, 0, none⟩, len, len⟩ hfr hbel m1 (fun b hb => by simp only [Sl.val, Value.ownBlock, Option.some.injEq] at hb; omega) (ownsM_of (base := w.heap.size) (row0_lt hr0) (by
      rw [m2, m3, ← hjs]
      simpa [Sl.val] using hown)) (fun hle => by rw [m4]; exact hcv.mono hle fun _ _ => trivial)
  unfold Oper.wp
  rw [hrun]
  exact hK _ _ ⟨_, _, hs'.put o.dst hd (.inr hi')⟩
theorem lit_sound (hs : SimW n W A0 s a w β σ) (hd : ∀ d, o.dst = some d → W.okd n d) {t e : TypeId} {len : Nat} {ps : Array (Nat × Operand)} {z : List SV} {qs : List (Nat × Nat × SO)} {j : TypeInfo} {r0 : Row SV} (ho : o.op = .buildSlice t len ps) (hu : P.underlying t = some (.slice e))
    (hz : ((P.info? e).bind (·.zero)).bind cellsSV = some z) (hj : P.info? e = some j) (hr0 : row0 P e = some r0) (hzl : z.length = j.size) (hl : len * j.size ≤ 1000) (hq : ps.toList.mapM (cLit j.size) = some qs) {cs : List SV}
    (hf : fillP (List.replicate len z).flatten (qs.map fun p => (p.1, p.2.1)) ((qs.map (·.2.2)).map (SO.ev s)) = some cs) {r : Row SV} (hr : mkRow r0 len cs = some r) {lab : Nat} (hfr : (s.mem lab).isFresh = true)
    (hK : ∀ a' w', Sim n W A0 ((s.setm lab (.row 0 e r)).put o.dst (.sl lab 0)) a' w' → K a' w') : o.wp P a w K Q := by
  have hne := fillP_ne _ _ _ _ hf
  obtain ⟨L, e1, e2, e3, e4, e5⟩ := parts_of hs (fun i => some (i * j.size, j.size)) (cLit j.size) (fun p q h => by
    unfold cLit at h
    split at h
    · rename_i x hx
      simp only [Option.some.injEq] at h
      subst h
      exact ⟨hx, rfl⟩
    · cases h) ps.toList qs hq (fun q hq' => hne _ (List.mem_map.2 ⟨q.2.2, List.mem_map.2 ⟨q, hq', rfl⟩, rfl⟩))
  rw [e1, e2] at hf
  exact lit_core hs hd ho hu hz hj hr0 hzl hl L e3 e4 e5 hf hr hfr hK

theorem mk_sound (hs : SimW n W A0 s a w β σ) (hd : ∀ d, o.dst = some d → W.okd n d) {t e : TypeId} {x y : Operand} {x' y' : SO} (hx : cO x = some x') (hy : cO y = some y') {z : List SV} {j : TypeInfo} {r0 : Row SV} (ho : o.op = .makeSlice t x y) (hu : P.underlying t = some (.slice e))
    (hz : ((P.info? e).bind (·.zero)).bind cellsSV = some z) (hj : P.info? e = some j) (hr0 : row0 P e = some r0) (hzl : z.length = j.size) (hby : 0 < j.bytes) {kl kc : IntKind} {l c : Int} (ex : x'.ev s = .int kl l) (ey : y'.ev s = .int kc c) (h0 : 0 ≤ l) (hlc : l ≤ c) (hb : c * j.bytes ≤ 140737488355328)
    {r : Row SV} (hr : r0.rep l.toNat z = some r) {lab : Nat} (hfr : (s.mem lab).isFresh = true)
    (hK : ∀ a' w', Sim n W A0 ((s.setm lab (.row 0 e r)).put o.dst (.sl lab 0)) a' w' → K a' w') : o.wp P a w K Q := by
  obtain ⟨j', hj', hjs, hj0, _⟩ := row0_spec hr0
  rw [hj] at hj'; cases hj'
  obtain ⟨it, zv, hi, hzv, hcells, hzo⟩ := zero_of (P := P) (E := env A0 s w β σ) hz
  rw [hj] at hi; cases hi
  have ax := eval_of hs hx (by simp [ex])
  have ay := eval_of hs hy (by simp [ey])
  rw [ex] at ax; rw [ey] at ay
  obtain ⟨m1, m2, m3, m4, m5⟩ := Row.rep_spec hzo hr
  have hb1 : c ≤ c * (j.bytes : Int) := by
    have h1 : (1 : Int) ≤ (j.bytes : Int) := by omega
    have := Int.mul_le_mul_of_nonneg_left h1 (by omega : (0 : Int) ≤ c)
    simpa using this
  have hrun0 := run_make (P := P) w t e j zv hu hj hzv kl kc l c h0 hlc (by rw [Int.mul_comm]; omega) (by omega)
  have hrun : (execOp a.eval o).run P w = .ok (.value (.slice (some ⟨w.heap.size, 0, none⟩) l.toNat c.toNat)) (w.alloc (.cells (madeCells zv.cells (c.toNat * j.size)) e)) := by
    simp only [execOp, ho, ax.int_inv, ay.int_inv, Sem.run_bind, hrun0, Result.andThen_ok, Sem.run_pure]
  have hzall := zeros_all hcells (by omega) c.toNat
  have hmade : (madeCells zv.cells (c.toNat * j.size)).toList = ((Array.range (c.toNat * z.length)).map fun i => zv.cells[i % zv.cells.size]!).toList := by rw [hzl]; rfl
  have hpart := All.part hzall 0 (l.toNat * z.length)
  have hrep : ((List.replicate c.toNat z).flatten.drop 0).take (l.toNat * z.length) = (List.replicate l.toNat z).flatten := by
    rw [List.drop_zero]
    have hlen : ∀ q ∈ List.replicate c.toNat z, q.length = z.length := fun q hq => by rw [List.eq_of_mem_replicate hq]
    rw [flat_take hlen, List.take_replicate, Nat.min_eq_left (by omega)]
  rw [hrep] at hpart
  have hbel : Below w.heap.size w (w.alloc (.cells (madeCells zv.cells (c.toNat * j.size)) e)) := (Below.refl _ _).alloc (Nat.le_refl _) _
  have hms : (madeCells zv.cells (c.toNat * j.size)).size = c.toNat * j.size := by simp [madeCells]
  obtain ⟨_, hs', hi'⟩ := new_row hs lab e r (((madeCells zv.cells (c.toNat * j.size)).toList.drop 0).take (l.toNat * z.length)) ⟨some ⟨w.heap.size, 0, none⟩, l.toNat, c.toNat⟩ hfr hbel m1 (fun b hb => by simp only [Sl.val, Value.ownBlock, Option.some.injEq] at hb; omega) (ownsM_of (base := w.heap.size) (row0_lt hr0) (by
      rw [m2, m3, ← hjs]
      refine ⟨?_, .inr ⟨w.heap.size, c.toNat, _, rfl, Nat.le_refl _, heap_alloc_new w _, by omega, by simp only [maxLen]; omega, hms, ?_⟩⟩
      · rw [hzl]
        simp [hms]
        rw [Nat.min_eq_left (by omega)]
      · rw [hzl, List.drop_zero])) (fun hle => by rw [m5, hmade]; exact hpart.mono hle fun _ _ => trivial)
  unfold Oper.wp
  rw [hrun]
  exact hK _ _ ⟨_, _, hs'.put o.dst hd (.inr hi')⟩
end
end Go.Proofs.Ytgklfolmlcfjgaa.Y
