/- Lists of peers among the arguments. -/
import Derived.Test.YtgklfolmlcfjgaaYG
namespace Go.Proofs.Ytgklfolmlcfjgaa
open Go.ChangeShapes Go.WideShapes Go.ChangeAt Go.RowKit Go.Joins Go.Deep Y
set_option linter.unusedVariables false
structure Pr where
  id : List UInt8
  inc : Int
  seq : Int
  drops : Int
  cap : Int
  vals : List Int
  last : Int
  deriving DecidableEq, Inhabited
def PrOk (p : Pr) : Prop := p.id.length ≤ 140737488351232 ∧ I64 p.inc ∧ I64 p.seq ∧ I64 p.drops ∧ I64 p.cap ∧ AllI p.vals ∧ I64 p.last
def prC (p : Pr) : List SV := [.str p.id, .int .i64 p.inc, .int .i64 p.seq, .int .i64 p.drops, .int .i64 p.cap, .rw (.ints .i64 p.vals), .int .i64 p.last]
def mapP (l : List Pr) : List (List SV) := l.map prC
theorem mapP_len (l : List Pr) : (mapP l).length = l.length := by simp [mapP]
theorem mapP_get {l : List Pr} {i : Nat} (h : i < l.length) : (mapP l).getD i [] = prC (l.getD i default) := by
  simp only [mapP, List.getD_eq_getElem?_getD, List.getElem?_map, List.getElem?_eq_getElem h, Option.map_some, Option.getD_some]
theorem mapP_labs (l : List Pr) : labsLL (mapP l) = [] := by
  induction l with
  | nil => rfl
  | cons r l ih => rw [mapP] at *; simp [List.map_cons, labsLL, labsL, prC, SV.labs, labsR, ih]
theorem mapP_take (l : List Pr) (k : Nat) : (mapP l).take k = mapP (l.take k) := by simp [mapP, List.map_take]
theorem mapP_drop (l : List Pr) (k : Nat) : (mapP l).drop k = mapP (l.drop k) := by simp [mapP, List.map_drop]
theorem mapP_app (l m : List Pr) : mapP l ++ mapP m = mapP (l ++ m) := by simp [mapP]
theorem mapP_nil : mapP [] = [] := rfl
theorem mapP_one (p : Pr) : [prC p] = mapP [p] := rfl
theorem mapP_set (l : List Pr) (i : Nat) (p : Pr) : (mapP l).set i (prC p) = mapP (l.set i p) := by simp [mapP, List.map_set]
/-- A peer's cells, read back. -/
def toPr : List SV → Option Pr
  | [.str a, .int .i64 b, .int .i64 c, .int .i64 d, .int .i64 e, .rw (.ints .i64 l), .int .i64 g] => some ⟨a, b, c, d, e, l, g⟩
  | _ => none
theorem toPr_eq {x : List SV} {p : Pr} (h : toPr x = some p) : x = prC p := by
  unfold toPr at h
  split at h
  · simp only [Option.some.injEq] at h; subst h; rfl
  · cases h
def toPs : List (List SV) → Option (List Pr)
  | [] => some []
  | c :: r => match toPr c, toPs r with
    | some p, some l => some (p :: l)
    | _, _ => none
theorem toPr_C (p : Pr) : toPr (prC p) = some p := rfl
theorem toPs_mapP (l : List Pr) : toPs (mapP l) = some l := by
  induction l with
  | nil => rfl
  | cons p l ih => rw [mapP] at *; simp [toPs, ih, toPr_C]
theorem toPs_eq : ∀ (x : List (List SV)) {l : List Pr}, toPs x = some l → x = mapP l
  | [], l, h => by simp only [toPs, Option.some.injEq] at h; subst h; rfl
  | c :: r, l, h => by
    simp only [toPs] at h
    split at h
    · rename_i p m h1 h2
      simp only [Option.some.injEq] at h
      subst h
      rw [toPr_eq h1, toPs_eq r h2]; rfl
    · cases h
def asP : SV → Option (List Pr)
  | .rw (.recs 7 x) => toPs x
  | .nn (.recs 7 x) => toPs x
  | .nil => some []
  | _ => none
theorem asP_rw (l : List Pr) : asP (.rw (.recs 7 (mapP l))) = some l := toPs_mapP l
theorem asP_nn (l : List Pr) : asP (.nn (.recs 7 (mapP l))) = some l := toPs_mapP l
theorem asP_nil : asP .nil = some [] := rfl
theorem asP_fit {x : SV} {l : List Pr} (h : asP x = some l) : fitR1 x (.rw (.recs 7 (mapP l))) := by
  unfold asP at h
  split at h
  · rw [toPs_eq _ h]; simp [fitR1, fitR0]
  · rw [toPs_eq _ h]; simp [fitR1, fitR0]
  · simp only [Option.some.injEq] at h; subst h; simp [fitR1, fitR0, Row.len, mapP]
  · cases h
theorem flatN {α : Type} {n : Nat} (hn : 0 < n) : ∀ (L : List (List α)), (∀ c ∈ L, c.length = n) → ∀ j, L.flatten[j]? = (L[j / n]?).bind fun c => c[j % n]?
  | [], _, j => by simp
  | c :: L, h, j => by
    have hc := h c (List.mem_cons_self ..)
    rw [List.flatten_cons, List.getElem?_append, hc]
    by_cases hj : j < n
    · rw [if_pos hj, Nat.div_eq_of_lt hj, Nat.mod_eq_of_lt hj]; rfl
    · rw [if_neg hj, flatN hn L (fun x hx => h x (List.mem_cons_of_mem _ hx)) (j - n)]
      have e1 : j / n = (j - n) / n + 1 := by rw [Nat.div_eq j n, if_pos ⟨hn, by omega⟩]
      have e2 : j % n = (j - n) % n := by rw [Nat.mod_eq_sub_mod (by omega)]
      rw [e1, e2, List.getElem?_cons_succ]
theorem flatN_len {α : Type} {n : Nat} : ∀ (L : List (List α)), (∀ c ∈ L, c.length = n) → L.flatten.length = L.length * n
  | [], _ => by simp
  | c :: L, h => by
    rw [List.flatten_cons, List.length_append, flatN_len L (fun x hx => h x (List.mem_cons_of_mem _ hx)), h c (List.mem_cons_self ..), List.length_cons, Nat.succ_mul]
    omega
section
variable {H : Type} {enc : TypeId × Value → H} {W : World} {base : Nat} {spare : Nat → Bool} {held : Bool} {P : Program}
theorem weightsAll_mem {p : Nat → Bool} {e : TypeId} {x : DataW H} : ∀ {l : List (DataW H)}, (DataW.weightsAll P e l).all p = true → x ∈ l → (x.weights P e).all p = true
  | [], _, h => by cases h
  | y :: l, h, hx => by
    simp only [DataW.weightsAll, List.all_append, Bool.and_eq_true] at h
    rcases List.mem_cons.1 hx with rfl | hx
    · exact h.1
    · exact weightsAll_mem h.2 hx
/-- The types of a list of peers. -/
structure PeerT (P : Program) (e : TypeId) : Prop where
  ex : ∃ (f0 f1 f2 f3 g0 g1 g2 k0 k1 : Field) (q : TypeId), P.underlying e = some (.struct #[f0, f1, f2, f3]) ∧ P.cellsOf e = 7 ∧
    (f0.offset = 0 ∧ P.cellsOf f0.type = 1 ∧ P.underlying f0.type = some .string) ∧
    (f1.offset = 1 ∧ P.cellsOf f1.type = 3 ∧ P.underlying f1.type = some (.struct #[g0, g1, g2]) ∧ oneCellFields P #[g0, g1, g2] = true ∧ P.underlying g0.type = some (.int .i64) ∧ P.underlying g1.type = some (.int .i64) ∧ P.underlying g2.type = some (.int .i64)) ∧
    (f2.offset = 4 ∧ P.cellsOf f2.type = 2 ∧ P.underlying f2.type = some (.struct #[k0, k1]) ∧ oneCellFields P #[k0, k1] = true ∧ P.underlying k0.type = some (.int .i64) ∧ P.underlying k1.type = some (.slice q) ∧ P.underlying q = some (.int .i64) ∧ P.cellsOf q = 1) ∧
    (f3.offset = 6 ∧ P.cellsOf f3.type = 1 ∧ P.underlying f3.type = some (.int .i64))
theorem open_peer1 {e : TypeId} (hT : PeerT P e) {n : Nat} {cs : List Value} {D : DataW H} {Pl : List MemPlace} (h : DataW.trod enc P W base spare held n e cs = some (D, Pl)) (hl : cs.length = 7) (hw : (D.weights P e).all (· ≤ reachBytes) = true) :
    ∃ p : Pr, PrOk p ∧ All (E0 W fun _ => False) (prC p) cs := by
  obtain ⟨f0, f1, f2, f3, g0, g1, g2, k0, k1, q, he, hC, ⟨o0, c0, t0⟩, ⟨o1, c1, t1, n1, u0, u1, u2⟩, ⟨o2, c2, t2, n2, v0, v1, v2, v3⟩, ⟨o3, c3, t3⟩⟩ := hT.ex
  match cs, hl with
  | [a0, a1, a2, a3, a4, a5, a6], _ =>
    obtain ⟨xs, m, _, hx, _, hlen, hf⟩ := DataW.trod_struct he h
    match xs, hlen with
    | [y0, y1, y2, y3], _ =>
      have h0 := hf 0 f0 rfl
      have h1 := hf 1 f1 rfl
      have h2 := hf 2 f2 rfl
      have h3 := hf 3 f3 rfl
      rw [o0, c0] at h0
      rw [o1, c1] at h1
      rw [o2, c2] at h2
      rw [o3, c3] at h3
      simp at h0 h1 h2 h3
      obtain ⟨s, e0, x0, _⟩ := DataW.trod_string t0 h0
      simp only [List.cons.injEq, and_true] at e0
      subst e0
      obtain ⟨z0, z1, z2, m1, _, _, w0, w1, w2⟩ := trod_struct3 t1 h1
      obtain ⟨r0, i0⟩ := hone_of n1 0 g0 rfl
      obtain ⟨r1, i1⟩ := hone_of n1 1 g1 rfl
      obtain ⟨r2, i2⟩ := hone_of n1 2 g2 rfl
      rw [r0, i0] at w0
      rw [r1, i1] at w1
      rw [r2, i2] at w2
      simp at w0 w1 w2
      obtain ⟨b1, e1, _, q1⟩ := DataW.trod_int u0 w0
      obtain ⟨b2, e2, _, q2⟩ := DataW.trod_int u1 w1
      obtain ⟨b3, e3, _, q3⟩ := DataW.trod_int u2 w2
      simp only [List.cons.injEq, and_true] at e1 e2 e3
      subst e1 e2 e3
      obtain ⟨z4, z5, m2, _, _, w4, w5⟩ := trod_struct2 t2 h2
      obtain ⟨r4, i4⟩ := hone_of n2 0 k0 rfl
      obtain ⟨r5, i5⟩ := hone_of n2 1 k1 rfl
      rw [r4, i4] at w4
      rw [r5, i5] at w5
      simp at w4 w5
      obtain ⟨b4, e4, _, q4⟩ := DataW.trod_int v0 w4
      simp only [List.cons.injEq, and_true] at e4
      subst e4
      obtain ⟨l, hl, hi⟩ := open_ints1 v1 v2 v3 w5
      obtain ⟨b6, e6, _, q6⟩ := DataW.trod_int t3 h3
      simp only [List.cons.injEq, and_true] at e6
      subst e6
      have hD : D = .agg [y0.1, y1.1, y2.1, y3.1] := (Prod.mk.inj hx).1
      have hs : s.data.toList.length ≤ 140737488351232 := by
        rw [hD, x0] at hw
        simp only [DataW.weights, he, List.map_cons, List.map_nil, DataW.weightsEach, List.all_append, Bool.and_eq_true, List.all_cons] at hw
        exact of_decide_eq_true hw.1.1
      refine ⟨⟨s.data.toList, b1, b2, b3, b4, l, b6⟩, ⟨hs, i64_of q1, i64_of q2, i64_of q3, i64_of q4, hl, i64_of q6⟩, ?_⟩
      have hstr : Is (E0 W fun _ => False) (.str s.data.toList) (.string s) := by
        have := Is.str (E := E0 W fun _ => False) s.data.toList
        simpa using this
      exact All.cons hstr (All.cons (.int _ _) (All.cons (.int _ _) (All.cons (.int _ _) (All.cons (.int _ _) (All.cons hi (All.cons (.int _ _) All.nil))))))
theorem open_peers {r : Reach} {b0 : Nat} {t e : TypeId} {v : Value} {d : DataW H} {ps : List MemPlace} (ht : P.underlying t = some (.slice e)) (hT : PeerT P e)
    (hval : Value.okWide P W r b0 t v) (hd : DataW.Trod enc P W base spare held t v d ps) (hw : (d.weights P t).all (· ≤ reachBytes) = true) :
    ∃ l : List Pr, (∀ p ∈ l, PrOk p) ∧ Is (E0 W fun _ => False) (.rw (.recs 7 (mapP l))) v := by
  have hC : P.cellsOf e = 7 := by obtain ⟨_, _, _, _, _, _, _, _, _, _, _, h, _⟩ := hT.ex; exact h
  obtain ⟨ao, len, cap, rfl⟩ := okWide_slice ht hval
  obtain ⟨fuel, hf⟩ := hd
  have h : DataW.trod enc P W base spare held fuel t [.slice ao len cap] = some (d, ps) := by simpa [Value.cells] using hf
  rcases Go.Deep.open_slice ht h with ⟨k1, _⟩ | ⟨a, len', cap', m, n, D, Pl, k1, _, k3, k4, k5, k6, k7⟩
  · have hv : Value.slice ao len cap = .slice none 0 0 := by simpa using k1
    rw [hv]
    exact ⟨[], by simp, .rw0 _ none 0 rfl fun _ => rfl⟩
  · have hv : Value.slice ao len cap = .slice (some a) len' cap' := by simpa using k1
    rw [hv]
    have hm : len' ≤ m := by rw [k5]; split <;> omega
    have hdd : d = .slice ((List.range len').map D) ((List.range (m - len')).map fun j => D (len' + j)) := (Prod.mk.inj k6).1
    have hwi : ∀ i, i < len' → ((D i).weights P e).all (· ≤ reachBytes) = true := fun i hi => by
      rw [hdd] at hw
      simp only [DataW.weights, ht, List.all_cons, List.all_append, Bool.and_eq_true] at hw
      exact weightsAll_mem hw.2.1 (List.mem_map.2 ⟨i, List.mem_range.2 hi, rfl⟩)
    have hV : ∀ i, i < len' → ∃ x : Pr × List Value, PrOk x.1 ∧ x.2.length = 7 ∧ All (E0 W fun _ => False) (prC x.1) x.2 ∧ ∀ j, j < 7 → W.cell? ((a.add (i * 7)).add j) = x.2[j]? := fun i hi => by
      obtain ⟨cs, q1, q2⟩ := k7 i (by omega)
      rw [hC] at q1
      obtain ⟨_, hlen, hc⟩ := World.cells?_some q1
      obtain ⟨p, hp, hall⟩ := open_peer1 hT q2 hlen (hwi i hi)
      exact ⟨(p, cs), hp, hlen, hall, hc⟩
    let f : Nat → Pr × List Value := fun i => if hi : i < len' then Classical.choose (hV i hi) else (default, [])
    have hf' : ∀ i, i < len' → PrOk (f i).1 ∧ (f i).2.length = 7 ∧ All (E0 W fun _ => False) (prC (f i).1) (f i).2 ∧ ∀ j, j < 7 → W.cell? ((a.add (i * 7)).add j) = (f i).2[j]? := fun i hi => by
      have : f i = Classical.choose (hV i hi) := by simp only [f]; rw [dif_pos hi]
      rw [this]
      exact Classical.choose_spec (hV i hi)
    refine ⟨(List.range len').map fun i => (f i).1, fun x hx => ?_, ?_⟩
    · obtain ⟨i, hi, rfl⟩ := List.mem_map.1 hx
      exact (hf' i (List.mem_range.1 hi)).1
    · by_cases hl0 : len' = 0
      · subst hl0
        exact .rw0 _ (some a) cap' rfl fun h => by cases h
      · have hs : a.spot = none := by
          obtain ⟨_, q0, _, q⟩ := hf' 0 (by omega)
          have q := q 0 (by omega)
          rw [List.getElem?_eq_getElem (by omega)] at q
          simp only [Nat.zero_mul, Addr.add, if_true] at q
          cases hsp : a.spot with
          | none => rfl
          | some k =>
            exfalso
            unfold World.cell? at q
            split at q <;> simp [hsp] at q
        obtain ⟨b, off, sp⟩ := a
        simp only at hs
        subst hs
        have hL : ∀ c ∈ (List.range len').map (fun i => (f i).2), c.length = 7 := fun c hc => by
          obtain ⟨i, hi, rfl⟩ := List.mem_map.1 hc
          exact (hf' i (List.mem_range.1 hi)).2.1
        have hM : ∀ c ∈ mapP ((List.range len').map fun i => (f i).1), c.length = 7 := fun c hc => by
          obtain ⟨p, _, rfl⟩ := List.mem_map.1 hc
          rfl
        have hget : ∀ j u, ((List.range len').map (fun i => (f i).2)).flatten[j]? = some u → j / 7 < len' ∧ (f (j / 7)).2[j % 7]? = some u := fun j u hu => by
          rw [flatN (by omega) _ hL, List.getElem?_map] at hu
          by_cases hj : j / 7 < len'
          · rw [List.getElem?_range hj] at hu
            exact ⟨hj, hu⟩
          · rw [List.getElem?_eq_none (by simpa using hj)] at hu; cases hu
        have hcell : ∀ j u, ((List.range len').map (fun i => (f i).2)).flatten[j]? = some u → W.cell? ⟨b, off + j, none⟩ = some u := fun j u hu => by
          obtain ⟨hj, h2⟩ := hget j u hu
          obtain ⟨_, _, _, q⟩ := hf' (j / 7) hj
          have q := q (j % 7) (by omega)
          rw [Addr.add_lit, Addr.add_lit, h2, show off + j / 7 * 7 + j % 7 = off + j by omega] at q
          exact q
        have hlen : ((.recs 7 (mapP ((List.range len').map fun i => (f i).1))) : Row SV).len = len' := by simp [Row.len, mapP]
        have hcl : ((.recs 7 (mapP ((List.range len').map fun i => (f i).1))) : Row SV).cells.length = len' * 7 := by
          simp only [Row.cells]; rw [flatN_len _ hM]; simp [mapP]
        have hvl : ((List.range len').map (fun i => (f i).2)).flatten.length = len' * 7 := by rw [flatN_len _ hL]; simp
        have hb : b < W.heap.size := World.block_lt_of_cell? W ⟨b, off + 0, none⟩ (hcell 0 _ (List.getElem?_eq_getElem (by omega)))
        have := Is.rw (E := E0 W fun _ => False) (.recs 7 (mapP ((List.range len').map fun i => (f i).1))) b off cap' ((List.range len').map (fun i => (f i).2)).flatten (fun c hc => ⟨hM c hc, by
            obtain ⟨p, _, rfl⟩ := List.mem_map.1 hc
            rfl⟩) (by rw [hlen]; exact k3) (fun h => h) hb (by rw [hcl, hvl]) hcell (fun j x u hx hu => by
          obtain ⟨hj, h2⟩ := hget j u hu
          obtain ⟨_, _, hall, _⟩ := hf' (j / 7) hj
          simp only [Row.cells] at hx
          rw [flatN (by omega) _ hM] at hx
          simp only [mapP, List.map_map, List.getElem?_map, List.getElem?_range hj, Option.map_some, Function.comp, Option.bind_some] at hx
          exact hall.2 (j % 7) x u hx h2)
        rw [hlen] at this
        exact this
end
end Go.Proofs.Ytgklfolmlcfjgaa
