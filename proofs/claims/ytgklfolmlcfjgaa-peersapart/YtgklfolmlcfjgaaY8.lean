/- The second walk is sound: append, parts of slices, calls. -/
import Derived.Test.YtgklfolmlcfjgaaY7
import Derived.Maps.AppendAt
import Derived.Lib.ConvBytes
import Derived.Lib.AppendStr
import Derived.Laws.BytesArg
namespace Go.Proofs.Ytgklfolmlcfjgaa.Y
open Go.RowKit
set_option linter.unusedSimpArgs false
set_option linter.unusedVariables false
section
variable {Γ : Gam} {P : Program} {n : Nat} {W : Wd} {A0 : Nat → Prop} {s : St} {a : Act} {w : World} {β : Nat → Nat} {σ : Nat → Sl} {o : Oper} {K : Act → World → Prop} {Q : Exit → Act → World → Prop}

theorem All.one {E : Env} {cs : List SV} {vs : List Value} (h : All E cs vs) (h1 : cs.all SV.one = true) : ∀ u ∈ vs, u.oneCell' = true := fun u hu => by
  obtain ⟨j, hj, rfl⟩ := List.getElem_of_mem hu
  have hj' : j < cs.length := by rw [← h.1]; exact hj
  exact (h.2 j _ _ (List.getElem?_eq_getElem hj') (List.getElem?_eq_getElem hj)).one_cell ((List.all_eq_true.1 h1) _ (List.getElem_mem hj'))
theorem run_app {t : TypeId} {x y : Operand} {c : Call} (ho : o.op = .call c) (hc : c.callee = .builtin .append) (ht : c.argTypes.toList = [t, t]) (hx : c.args.toList = [x, y]) :
    (execOp a.eval o).run P w = ((Builtin.append_ #[t, t] o.type #[a.eval x, a.eval y]).run P w).andThen fun v w' => .ok (.value v) w' := by
  have ha : c.args = #[x, y] := by rw [← Array.toArray_toList (xs := c.args), hx]
  have hat : c.argTypes = #[t, t] := by rw [← Array.toArray_toList (xs := c.argTypes), ht]
  simp only [execOp, ho, resolve, hc, ha, hat, invoke, builtin, Sem.run_bind, Sem.run_pure, Result.andThen_ok, List.map_toArray, List.map_cons, List.map_nil]
theorem sl_val (hs : SimW n W A0 s a w β σ) {d g : Nat} {v : Value} (h : Is (env A0 s w β σ) (.sl d g) v) (hv : (s.mem d).ver = some g) : v = (σ d).val := by
  cases h with
  | sl _ _ cur a l c h1 h2 h3 =>
    have h1' : (s.mem d).ver = some cur := h1
    rw [hv] at h1'
    simp only [Option.some.injEq] at h1'
    exact h3 h1'
theorem own_val {w' : World} {base e sz k : Nat} {v : Value} {xs : List Value} (h : w'.ownsRow base e sz v k xs) : ∃ sd : Sl, sd.val = v := by
  rcases h.2 with ⟨rfl, _⟩ | ⟨g, cap, cur, rfl, _⟩
  · exact ⟨⟨none, 0, 0⟩, rfl⟩
  · exact ⟨⟨some ⟨g, 0, none⟩, k, cap⟩, rfl⟩

theorem own_valM {w' : World} {e sz k : Nat} {v : Value} {xs : List Value} (h : ownsM w' e sz v k xs) : ∃ sd : Sl, sd.val = v := by
  rcases h.2 with ⟨rfl, _⟩ | ⟨g, cap, cur, fz, rfl, _⟩
  · exact ⟨⟨none, 0, 0⟩, rfl⟩
  · exact ⟨⟨some ⟨g, 0, none⟩, k, cap⟩, rfl⟩
/-- The slice behind d has grown. -/
theorem grow_row (hs : SimW n W A0 s a w β σ) {d g e : Nat} {r r'' : Row SV} (hm : s.mem d = .row g e r) {v' : Value} {w' : World} {vs : List Value} (hw : r''.Wf) (ho : ownsM w' e r''.size v' r''.len vs) (hg : w.grownBy w' (σ d).val.ownBlock)
    (hb : ∀ b, v'.ownBlock = some b → (σ d).val.ownBlock = some b ∨ w.heap.size ≤ b) (hall : All (env A0 s w β σ) r''.cells vs) :
    ∃ σ', SimW n W A0 (s.setm d (.row (g + 1) e r'')) a w' β σ' ∧ Is (env A0 (s.setm d (.row (g + 1) e r'')) w' β σ') (.sl d (g + 1)) v' := by
  obtain ⟨sd, rfl⟩ := own_valM ho
  have hwb : wblk β σ d (s.mem d) = (σ d).val.ownBlock := by rw [hm]; rfl
  have hcel := hs.mem d
  have hmine : ∀ b, (σ d).val.ownBlock = some b → W.mine b := fun b hb => (hcel.lt (b := b) (by show wblk β σ d (s.mem d) = some b; rw [hwb, ← hb])).1
  have hbel : Bel W w' := hs.bel.next hg.os hg.tape hg.output hg.size fun k hk hx => hg.block k (Nat.lt_of_lt_of_le hk hs.bel.size) fun he => by
    rcases hmine k he.symm with h | h
    · omega
    · exact hx h
  have h := hs.one d (.row (g + 1) e r'') w' (β d) sd hbel (fun c hc => by rw [hm] at hc; simp [Cel.ver] at hc; subst hc; exact ⟨g + 1, rfl, by omega, rfl, fun he => by omega⟩)
    (fun b hb' hne => hg.block b hb' fun he => hne (by rw [hwb, ← he])) hg.size
    (fun b hb' => by
      simp only [wblk, upd_same] at hb'
      rw [hwb]
      exact hb b hb')
    (fun hle => ⟨hw, fun b hb' => by
      simp only [env, upd_same] at hb'
      rcases hb b hb' with hb | hb
      · exact hmine b hb
      · exact .inl (Nat.le_trans hs.bel.size hb), vs, by simp only [env, upd_same]; exact ho, hall.mono hle fun _ _ => trivial⟩)
  rw [upd_self] at h
  refine ⟨_, h.2, .sl d (g + 1) (g + 1) _ _ _ (by simp [env, St.setm, setM, Cel.ver]) (Nat.le_refl _) fun _ => by simp only [env, upd_same]; rfl⟩

theorem app_sound (hs : SimW n W A0 s a w β σ) (hd : ∀ d, o.dst = some d → W.okd n d) {c : Call} {t : TypeId} {x y : Operand} {x' y' : SO} (ho : o.op = .call c) (hc : c.callee = .builtin .append) (ht : c.argTypes.toList = [t, t]) (hx : c.args.toList = [x, y]) (cx : cO x = some x') (cy : cO y = some y')
    {e : Nat} {i : TypeInfo} {z : Value} {r0 : Row SV} (hu : P.underlying t = some (.slice e)) (hi : P.info? e = some i) (hz : i.zero = some z) (hr0 : row0 P e = some r0) (hzs : z.cells.size = i.size) (hby : 0 < i.bytes) {lab : Nat} {p : Prop} {ef : Eff}
    (he : effM Γ lab (.app e i.size i.bytes x' y') [x'.ev s, y'.ev s] s.mem = some (p, ef)) (hp : p) {s' : St} (happ : app o.dst s ef = some s') (hK : ∀ a' w', Sim n W A0 s' a' w' → K a' w') : o.wp P a w K Q := by
  obtain ⟨i', hi', his, hi0, _⟩ := row0_spec hr0
  have he0 := row0_lt hr0
  rw [hi] at hi'; cases hi'
  have hrun := run_app (P := P) (w := w) (a := a) ho hc ht hx
  have ax := fun h => eval_of hs cx h
  have ay := fun h => eval_of hs cy h
  have bound : ∀ k : Nat, k * i.bytes ≤ 140737488355328 → k ≤ maxLen := fun k hk => by
    have : k ≤ k * i.bytes := Nat.le_mul_of_pos_right _ hby
    simp only [maxLen]; omega
  -- the two roads: nothing is added; something is
  have stay : ∀ {d g : Nat} {r r'' : Row SV}, s.mem d = .row g e r → a.eval x = (σ d).val → a.eval y = .slice none 0 0 → r''.Wf → r''.len = r.len → r''.size = r.size → r''.cells = r.cells →
      ef = ⟨.sl d (g + 1), [], [(d, .row (g + 1) e r'')]⟩ → o.wp P a w K Q := by
    intro d g r r'' hm hxv hyv w1 w2 w3 w4 hef
    subst hef
    have hcel := hs.mem d
    rw [hm] at hcel
    obtain ⟨hw, hmn, vs, hownM, hall⟩ := hcel
    have hown' : w.ownsRow 0 e r.size (σ d).val r.len vs := ownsM.row hownM he0 fun _ _ => Nat.zero_le _
    obtain ⟨σ', hs', hi'⟩ := grow_row (r'' := r'') (w' := w) hs hm w1 (by rw [w2, w3]; exact hownM) ⟨rfl, rfl, rfl, Nat.le_refl _, fun _ _ _ => rfl⟩ (fun b hb => .inl hb) (by rw [w4]; exact hall)
    rw [hxv, hyv, run_append_owned_none (P := P) w 0 t o.type e i r.size hu hi _ _ _ hown', Result.andThen_ok] at hrun
    unfold Oper.wp
    rw [hrun]
    simp only [app, List.all_nil, if_true, List.nil_append, setL, Option.some.injEq] at happ
    subst happ
    exact hK _ _ ⟨_, _, hs'.put o.dst hd (.inr hi')⟩
  have grow : ∀ {d g : Nat} {r r' r'' : Row SV} {ad : Addr} {cc : Nat} {news : List Value}, s.mem d = .row g e r → a.eval x = (σ d).val → a.eval y = .slice (some ad) r'.len cc → r'.Wf → All (env A0 s w β σ) r'.cells news → (∀ (j : Nat) u, news[j]? = some u → w.cell? (ad.add j) = some u) →
      r.size = i.size → r.cat r' = some r'' → (r.len + r'.len) * i.bytes ≤ 140737488355328 → ef = ⟨.sl d (g + 1), [], [(d, .row (g + 1) e r'')]⟩ → o.wp P a w K Q := by
    intro d g r r' r'' ad cc news hm hxv hyv w1 hnall hncell hrs hcat hbytes hef
    subst hef
    have hcel := hs.mem d
    rw [hm] at hcel
    obtain ⟨hw, hmn, vs, hownM, hall⟩ := hcel
    have hown' : w.ownsRow 0 e r.size (σ d).val r.len vs := ownsM.row hownM he0 fun _ _ => Nat.zero_le _
    obtain ⟨c1, c2, c3, c4, c5⟩ := Row.cat_spec hw w1 hcat
    obtain ⟨v', w', h1, h2, h3, _, h5⟩ := run_append_own_at (P := P) w 0 t o.type e i z r.size i.bytes hu hi hz (by omega) rfl (by omega) (by omega) (σ d).val r.len vs hown' ad r'.len cc news
      (by rw [hnall.1, Row.cells_len w1, c4]) hncell (hnall.one (Row.cells_one w1)) (bound _ hbytes) hbytes (Nat.zero_le _)
    obtain ⟨σ', hs', hi'⟩ := grow_row (r'' := r'') hs hm c1 (by rw [c2, c3]; exact ownsM_of he0 h2) h3 (fun b hb => by rcases h5 with h | h <;> rw [h] at hb <;> first | exact .inl hb | (simp only [Option.some.injEq] at hb; exact .inr (by omega))) (by rw [c5]; exact hall.append hnall)
    rw [hxv, hyv, h1, Result.andThen_ok] at hrun
    unfold Oper.wp
    rw [hrun]
    simp only [app, List.all_nil, if_true, List.nil_append, setL, Option.some.injEq] at happ
    subst happ
    exact hK _ _ ⟨_, _, hs'.put o.dst hd (.inr hi')⟩
  simp only [effM] at he
  split at he
  · -- nil is added
    rename_i d g hvs
    simp only [List.cons.injEq, and_true] at hvs
    obtain ⟨e1, e2⟩ := hvs
    split at he
    · rename_i g' e' r hm
      split at he
      · rename_i hc'
        obtain ⟨rfl, rfl⟩ := hc'
        simp only [Option.some.injEq, Prod.mk.injEq] at he
        obtain ⟨_, rfl⟩ := he
        rw [e1] at ax; rw [e2] at ay
        have hw : r.Wf := by have := hs.mem d; rw [hm] at this; exact this.1
        exact stay hm (sl_val hs (ax (by simp)) (by rw [hm]; rfl)) (ay (by simp)).nil_inv hw rfl rfl rfl rfl
      · cases he
    · cases he
  · rename_i d g y0 hny hvs
    simp only [List.cons.injEq, and_true] at hvs
    obtain ⟨e1, e2⟩ := hvs
    split at he
    · rename_i g' e' r r' hm hr'
      split at he
      · rename_i hc'
        obtain ⟨rfl, rfl, hrs0⟩ := hc'
        obtain ⟨r'', hcat, he⟩ := Option.map_eq_some_iff.1 he
        simp only [Prod.mk.injEq] at he
        obtain ⟨rfl, rfl⟩ := he
        rw [e1] at ax
        have hw : r.Wf := by have := hs.mem d; rw [hm] at this; exact this.1
        have hne : y0 ≠ .unk := by intro hh; rw [hh] at hr'; simp [rowAt] at hr'
        rw [e2] at ay
        have hrs : r.size = i.size := hrs0.symm
        rcases row_read hs hr' (ay hne) with ⟨h1, h2, h3⟩ | ⟨b, q, cc, news, h1, h2, h3, h4, h5, h6⟩
        · obtain ⟨c1, c2, c3, c4, c5⟩ := Row.cat_spec hw h3 hcat
          obtain ⟨ad, cc, h1, hcc⟩ := h1
          have hemp : r'.cells = [] := List.eq_nil_of_length_eq_zero (by rw [Row.cells_len h3, h2]; simp)
          cases ad with
          | some ad => exact grow (news := []) hm (sl_val hs (ax (by simp)) (by rw [hm]; rfl)) (by rw [h2]; exact h1) h3 (by rw [hemp]; exact All.nil) (by simp) hrs hcat hp rfl
          | none =>
          have hc0 := hcc rfl
          subst hc0
          refine stay (r'' := r'') hm (sl_val hs (ax (by simp)) (by rw [hm]; rfl)) h1 c1 (by omega) c3 ?_ rfl
          have : r'.cells = [] := List.eq_nil_of_length_eq_zero (by rw [Row.cells_len h3, h2]; simp)
          rw [c5, this, List.append_nil]
        · exact grow hm (sl_val hs (ax (by simp)) (by rw [hm]; rfl)) h1 h4 h5 (fun j u hu => by rw [Addr.add_lit]; exact h6 j u hu) hrs hcat hp rfl
      · cases he
    · cases he
  · -- onto nil
    rename_i y0 hvs
    simp only [List.cons.injEq, and_true] at hvs
    obtain ⟨e1, e2⟩ := hvs
    split at he
    case h_2 => cases he
    rename_i r' hr'
    split at he
    case isFalse => cases he
    rename_i hsz
    simp only [Option.some.injEq, Prod.mk.injEq] at he
    obtain ⟨rfl, rfl⟩ := he
    rw [e1] at ax
    have hne : y0 ≠ .unk := by intro hh; rw [hh] at hr'; simp [rowAt] at hr'
    rw [e2] at ay
    have hxv := (ax (by simp)).nil_inv
    obtain ⟨hf, rfl⟩ : (s.mem lab).isFresh = true ∧ (s.setm lab (.row 0 e r')).put o.dst (.sl lab 0) = s' := by
      simp only [app, List.all_cons, List.all_nil, Bool.and_true, List.append_nil, setL] at happ
      split at happ
      · rename_i hh; exact ⟨hh, by simpa using happ⟩
      · cases happ
    have onto : ∀ {ad : Addr} {cc : Nat} {news : List Value}, a.eval y = .slice (some ad) r'.len cc → r'.Wf → All (env A0 s w β σ) r'.cells news → (∀ (j : Nat) u, news[j]? = some u → w.cell? (ad.add j) = some u) → o.wp P a w K Q := by
      intro ad cc news h1 h4 h5 h6
      obtain ⟨v', w', g1, g2, g3, _, g5⟩ := run_append_own_at (P := P) w w.heap.size t o.type e i z r'.size i.bytes hu hi hz (by omega) rfl (by omega) (by omega) (.slice none 0 0) 0 [] (World.ownsRow_nil w _ e r'.size) ad r'.len cc news
        (by rw [h5.1, Row.cells_len h4]) h6 (h5.one (Row.cells_one h4)) (by rw [Nat.zero_add]; exact bound _ hp) (by rw [Nat.zero_add]; exact hp) (Nat.le_refl _)
      obtain ⟨sd, rfl⟩ := own_val g2
      simp only [Nat.zero_add, List.nil_append] at g2
      obtain ⟨_, hs', hi'⟩ := new_row hs lab e r' news sd hf ⟨g3.os, g3.tape, g3.output, g3.size, fun k hk => g3.block k hk (by simp [Value.ownBlock])⟩ h4 (fun b hb => (g2.lt b hb).1) (ownsM_of he0 g2) (fun hle => h5.mono hle fun _ _ => trivial)
      rw [hxv, h1, g1, Result.andThen_ok] at hrun
      unfold Oper.wp
      rw [hrun]
      exact hK _ _ ⟨_, _, hs'.put o.dst hd (.inr hi')⟩
    rcases row_read hs hr' (ay hne) with ⟨⟨ad, cc, h1, hcc⟩, h2, h3⟩ | ⟨b, q, cc, news, h1, h2, h3, h4, h5, h6⟩
    · have hcells : r'.cells = [] := List.eq_nil_of_length_eq_zero (by rw [Row.cells_len h3, h2]; simp)
      cases ad with
      | some ad => exact onto (news := []) (by rw [h2]; exact h1) h3 (by rw [hcells]; exact All.nil) (by simp)
      | none =>
      have hc0 := hcc rfl
      subst hc0
      obtain ⟨_, hs', hi'⟩ := new_row (w' := w) hs lab e r' [] ⟨none, 0, 0⟩ hf (Below.refl _ _) h3 (fun b hb => by simp [Sl.val, Value.ownBlock] at hb) (by rw [h2]; exact ownsM_of he0 (World.ownsRow_nil w 0 e r'.size)) (fun _ => by rw [hcells]; exact All.nil)
      rw [hxv, h1, run_append_owned_none (P := P) w W.heap.size t o.type e i r'.size hu hi _ _ _ (World.ownsRow_nil w _ e r'.size), Result.andThen_ok] at hrun
      unfold Oper.wp
      rw [hrun]
      exact hK _ _ ⟨_, _, hs'.put o.dst hd (.inr hi')⟩
    · exact onto h1 h4 h5 (fun j u hu => by rw [Addr.add_lit]; exact h6 j u hu)
  · cases he

/-- The bytes of a string behind a slice. -/
theorem apps_sound (hs : SimW n W A0 s a w β σ) (hd : ∀ d, o.dst = some d → W.okd n d) {c : Call} {t t' : TypeId} {x y : Operand} {x' y' : SO} (ho : o.op = .call c) (hc : c.callee = .builtin .append) (ht : c.argTypes.toList = [t, t']) (hx : c.args.toList = [x, y]) (cx : cO x = some x') (cy : cO y = some y')
    {e : Nat} {i : TypeInfo} {z : Value} {r0 : Row SV} (hu : P.underlying t = some (.slice e)) (hi : P.info? e = some i) (hz : i.zero = some z) (hr0 : row0 P e = some r0) (hcond : (isStrT P t' && isByteT P e && isZ8 z && i.size == 1 && i.bytes == 1) = true) {lab : Nat} {p : Prop} {ef : Eff}
    (he : effM Γ lab (.apps e x' y') [x'.ev s, y'.ev s] s.mem = some (p, ef)) (hp : p) {s' : St} (happ : app o.dst s ef = some s') (hK : ∀ a' w', Sim n W A0 s' a' w' → K a' w') : o.wp P a w K Q := by
  have he0 := row0_lt hr0
  simp only [Bool.and_eq_true, beq_iff_eq] at hcond
  obtain ⟨⟨⟨⟨c1, c2⟩, c3⟩, c4⟩, c5⟩ := hcond
  have c1' : P.underlying t' = some .string := by
    unfold isStrT at c1
    split at c1
    · assumption
    · cases c1
  have c3' : z = .int .u8 0 := by
    unfold isZ8 at c3
    split at c3
    · rfl
    · cases c3
  subst c3'
  simp only [effM] at he
  split at he
  case h_2 => cases he
  rename_i d g bs hvs
  simp only [List.cons.injEq, and_true] at hvs
  obtain ⟨e1, e2⟩ := hvs
  split at he
  case h_2 => cases he
  rename_i g' e' l hm
  split at he
  case isFalse => cases he
  rename_i hg
  obtain ⟨rfl, rfl⟩ := hg
  simp only [Option.some.injEq, Prod.mk.injEq] at he
  obtain ⟨rfl, rfl⟩ := he
  have ax := eval_of hs cx (by simp [e1])
  have ay := eval_of hs cy (by simp [e2])
  rw [e1] at ax
  rw [e2] at ay
  have hxv := sl_val hs ax (by rw [hm]; rfl)
  have hyv := ay.str_inv
  have hcel := hs.mem d
  rw [hm] at hcel
  obtain ⟨hw, hmn, vs, hownM, hall⟩ := hcel
  have hown' : w.ownsRow 0 e' 1 (σ d).val l.length vs := ownsM.row hownM he0 fun _ _ => Nat.zero_le _
  have hsz : (⟨bs.toArray⟩ : ByteArray).size = bs.length := by simp [ByteArray.size]
  obtain ⟨v', w', h1, h2, h3, _⟩ := Lib.run_append_own_string (P := P) w 0 t t' o.type e' i hu c1' hi hz c4 c5 (σ d).val l.length vs hown' ⟨bs.toArray⟩ (by rw [hsz]; simp only [maxLen]; omega) (by rw [hsz]; exact hp) (Nat.zero_le _)
  rw [hsz] at h2
  have hb : v'.ownBlock = (σ d).val.ownBlock ∨ ∃ b, v'.ownBlock = some b ∧ w.heap.size ≤ b := by
    rcases hown'.2 with ⟨p1, p2⟩ | ⟨g1, cap1, cur1, p1, _, p3, p4, p5, p6, p7⟩
    · have hnil : w.ownsRow w.heap.size e' 1 (σ d).val l.length vs := ⟨hown'.1, .inl ⟨p1, p2⟩⟩
      obtain ⟨v2, w2, k1, k2, _, k4⟩ := Lib.run_append_own_string (P := P) w w.heap.size t t' o.type e' i hu c1' hi hz c4 c5 (σ d).val l.length vs hnil ⟨bs.toArray⟩ (by rw [hsz]; simp only [maxLen]; omega) (by rw [hsz]; exact hp) (Nat.le_refl _)
      rw [h1] at k1
      simp only [Result.ok.injEq] at k1
      obtain ⟨rfl, rfl⟩ := k1
      cases hvb : v'.ownBlock with
      | none => left; rw [p1]; rfl
      | some b => right; exact ⟨b, rfl, (k2.lt b hvb).1⟩
    · rw [p1] at h1
      have hcs' : cur1.size = cap1 := by simpa using p6
      by_cases hroom : l.length + bs.length ≤ cap1
      · have hr := Lib.run_append_room_string (P := P) w t t' o.type e' i hu c1' hi c4 g1 l.length cap1 cur1 p3 ⟨bs.toArray⟩ (by rw [hsz]; exact hroom) (by rw [hsz]; omega)
        rw [h1] at hr
        simp only [Result.ok.injEq] at hr
        left; rw [hr.1, p1]; rfl
      · have holds : ∀ j u, vs[j]? = some u → w.cell? ((⟨g1, 0, none⟩ : Addr).add j) = some u := hown'.cells (g := g1) (by rw [p1]; rfl)
        have hr := Lib.run_append_grow_string (P := P) w t t' o.type e' i (.int .u8 0) hu c1' hi hz ⟨g1, 0, none⟩ l.length cap1 vs (by rw [c4]; exact hown'.1) holds ⟨bs.toArray⟩ (by rw [hsz]; omega) (by rw [hsz]; omega) (by rw [c5, hsz]; exact growslice_fits (by omega) (by omega))
        rw [h1] at hr
        simp only [Result.ok.injEq] at hr
        right; exact ⟨w.heap.size, by rw [hr.1]; rfl, Nat.le_refl _⟩
  have hcells : (Row.ints .u8 (l ++ bs.map fun b => (b.toNat : Int)) : Row SV).cells = (Row.ints .u8 l : Row SV).cells ++ bs.map fun b => SV.int .u8 (b.toNat : Int) := by simp [Row.cells]
  have hnew : All (env A0 s w β σ) (bs.map fun b => SV.int .u8 (b.toNat : Int)) (Lib.strCells ⟨bs.toArray⟩) := by
    refine ⟨by simp [Lib.strCells], fun j y u hy hu => ?_⟩
    simp only [Lib.strCells, List.getElem?_map] at hy hu
    cases hq : bs[j]? with
    | none => simp [hq] at hy
    | some b0 =>
      simp [hq] at hy hu
      subst hy hu
      exact .int _ _
  obtain ⟨σ', hs', hi'⟩ := grow_row (r'' := .ints .u8 (l ++ bs.map fun b => (b.toNat : Int))) hs hm trivial (by
    have : (Row.ints .u8 (l ++ bs.map fun b => (b.toNat : Int)) : Row SV).len = l.length + bs.length := by simp [Row.len]
    rw [this]; exact ownsM_of he0 h2) h3 (fun b hb' => by rcases hb with h | ⟨b', h, h'⟩ <;> rw [h] at hb' <;> first | exact .inl hb' | (simp only [Option.some.injEq] at hb'; exact .inr (by omega))) (by rw [hcells]; exact All.append hall hnew)
  have hrun : (execOp a.eval o).run P w = ((Builtin.append_ #[t, t'] o.type #[a.eval x, a.eval y]).run P w).andThen fun v w' => .ok (.value v) w' := by
    have ha : c.args = #[x, y] := by rw [← Array.toArray_toList (xs := c.args), hx]
    have hat : c.argTypes = #[t, t'] := by rw [← Array.toArray_toList (xs := c.argTypes), ht]
    simp only [execOp, ho, resolve, hc, ha, hat, invoke, builtin, Sem.run_bind, Sem.run_pure, Result.andThen_ok, List.map_toArray, List.map_cons, List.map_nil]
  rw [hxv, hyv, h1, Result.andThen_ok] at hrun
  unfold Oper.wp
  rw [hrun]
  simp only [app, List.all_nil, if_true, List.nil_append, setL, Option.some.injEq] at happ
  subst happ
  exact hK _ _ ⟨_, _, hs'.put o.dst hd (.inr hi')⟩
/-- The bytes of a string, as a slice of our own. -/
theorem tob_sound (hs : SimW n W A0 s a w β σ) (hd : ∀ d, o.dst = some d → W.okd n d) {src dst e : TypeId} {x : Operand} {x' : SO} (ho : o.op = .convert src dst x) (h1 : P.underlying src = some .string) (h2 : P.underlying dst = some (.slice e)) (h3 : isByteT P e = true) (he0 : e < 1000000) (hx : cO x = some x') {bs : List UInt8} (ex : x'.ev s = .str bs)
    (hlen : bs.length ≤ maxLen) {lab : Nat} (hf : (s.mem lab).isFresh = true) (hK : ∀ a' w', Sim n W A0 ((s.setm lab (.row 0 (e + 1000000) (.ints .u8 (bs.map fun b => (b.toNat : Int))))).put o.dst (.sl lab 0)) a' w' → K a' w') : o.wp P a w K Q := by
  have h3' : P.underlying e = some (.int .u8) := by
    unfold isByteT at h3
    split at h3
    · assumption
    · cases h3
  have ax := eval_of hs hx (by simp [ex])
  rw [ex] at ax
  have hxv := ax.str_inv
  have hsz : (⟨bs.toArray⟩ : ByteArray).size = bs.length := by simp [ByteArray.size]
  have hrun : (execOp a.eval o).run P w = .ok (.value (.slice (some ⟨w.heap.size, 0, none⟩) bs.length (grownCap w bs.length 0 e))) (Lib.bytesWorld w e ⟨bs.toArray⟩) := by
    have := Lib.run_convert_string_bytes (P := P) w src dst e ⟨bs.toArray⟩ h1 h2 h3'
    rw [hsz] at this
    simp only [execOp, ho, hxv, Sem.run_bind, this, Result.andThen_ok, Sem.run_pure]
  have hbel : Below w.heap.size w (Lib.bytesWorld w e ⟨bs.toArray⟩) := ⟨rfl, rfl, rfl, by rw [Lib.bytesWorld_size]; omega, fun k hk => Lib.bytesWorld_at_old w e _ k hk⟩
  have hge := grownCap_ge w bs.length 0 e
  have hcs : (Lib.bytesCells w e ⟨bs.toArray⟩).size = grownCap w bs.length 0 e := by
    simp [Lib.bytesCells, ByteArray.size]; omega
  obtain ⟨_, hs', hi'⟩ := new_row hs lab (e + 1000000) (.ints .u8 (bs.map fun b => (b.toNat : Int))) (bs.map fun b => Value.int .u8 (b.toNat : Int)) ⟨some ⟨w.heap.size, 0, none⟩, bs.length, grownCap w bs.length 0 e⟩ hf hbel trivial (fun b hb => by simp only [Sl.val, Value.ownBlock, Option.some.injEq] at hb; omega)
    (by
      refine ⟨by simp [Row.len, Row.size], .inr ⟨w.heap.size, grownCap w bs.length 0 e, Lib.bytesCells w e ⟨bs.toArray⟩, _, by simp [Sl.val, Row.len], by rw [Nat.add_mod_right, Nat.mod_eq_of_lt he0]; exact Lib.bytesWorld_at_new w e _, .inr ⟨by omega, by simp⟩, by simpa [Row.len] using hge, grownCap_le_maxLen w _ 0 e hlen, by simpa [Row.size] using hcs, ?_⟩⟩
      simp only [Lib.bytesCells, Row.len, Row.size, List.length_map, Nat.mul_one]
      simp [Array.toList_append])
    (fun _ => by
      refine ⟨by simp [Row.cells], fun j y u hy hu => ?_⟩
      simp only [Row.cells, List.getElem?_map] at hy hu
      cases hq : bs[j]? with
      | none => simp [hq] at hy
      | some b0 =>
        simp [hq] at hy hu
        subst hy hu
        exact .int _ _)
  unfold Oper.wp
  rw [hrun]
  exact hK _ _ ⟨_, _, hs'.put o.dst hd (.inr hi')⟩
/-- A string out of bytes. -/
theorem tos_yld (hs : SimW n W A0 s a w β σ) {src dst e : TypeId} {x : Operand} {x' : SO} (ho : o.op = .convert src dst x) (h1 : P.underlying src = some (.slice e)) (h2 : P.underlying dst = some .string) (h3 : isByteT P e = true) (hx : cO x = some x') {l : List Int}
    (ex : (x'.ev s = .nil ∧ l = []) ∨ rowAt s.mem (x'.ev s) = some (.ints .u8 l)) : Yld P A0 s a w β σ o (.str (l.map fun n => UInt8.ofNat n.toNat)) := by
  have h3' : P.underlying e = some (.int .u8) := by
    unfold isByteT at h3
    split at h3
    · assumption
    · cases h3
  have hne : x'.ev s ≠ .unk := by
    rcases ex with ⟨ex, _⟩ | ex
    · rw [ex]; simp
    · intro hh; rw [hh] at ex; simp [rowAt] at ex
  have ax := eval_of hs hx hne
  have fin : ∀ {ad : Option Addr} {ll cc : Nat}, a.eval x = .slice ad ll cc → (convert src dst (.slice ad ll cc)).run P w = .ok (.string (strOfNums l)) w → Yld P A0 s a w β σ o (.str (l.map fun n => UInt8.ofNat n.toNat)) := fun {ad ll cc} hv hr => by
    refine ⟨.string (strOfNums l), ?_, .inr (.str _)⟩
    simp only [execOp, ho, hv, Sem.run_bind, hr, Result.andThen_ok, Sem.run_pure]
  have hemp : l = [] → ByteArray.empty = strOfNums l := fun h => by subst h; rfl
  rcases ex with ⟨ex, rfl⟩ | ex
  · rw [ex] at ax
    refine fin ax.nil_inv ?_
    rw [run_convert_bytes_nil w src e h1 h3' 0 0 dst h2, hemp rfl]
  · rcases row_read hs ex ax with ⟨⟨ad, cc, q1, q2⟩, q3, _⟩ | ⟨b, q, cc, vs, q1, q2, q3, q4, q5, q6⟩
    · have hl : l = [] := List.eq_nil_of_length_eq_zero (by simpa [Row.len] using q3)
      subst hl
      refine fin q1 ?_
      cases ad with
      | none => rw [run_convert_bytes_nil w src e h1 h3' 0 cc dst h2, hemp rfl]
      | some ad =>
        rw [run_convert_bytes_string w src dst e _ 0 cc h1 h3' h2, run_bytesToString w ad 0 cc [] (by simp [loadCells, loadCellsFrom])]
        rfl
    · have hq : ∀ i, i < l.length → w.cell? ⟨b, q + i, none⟩ = some (.int .u8 (l.getD i 0)) := fun i hi => by
        have hx1 : (Row.ints .u8 l : Row SV).cells[i]? = some (.int .u8 (l.getD i 0)) := by simp [Row.cells, hi]
        obtain ⟨u, hu, hiu⟩ := q5.get hx1
        rw [q6 i u hu, hiu.int_inv]
      refine fin q1 ?_
      exact run_convert_bytes_arg w src e h1 h3' b q l.length cc l rfl hq dst h2

/-- A part of a slice. -/
theorem sub_run {t e : TypeId} {x : Operand} {lo hi : Option Operand} {ad : Option Addr} {len cap l h : Nat} (ax : a.eval x = .slice ad len cap) (hu : P.underlying t = some (.slice e)) {j : TypeInfo} (hj : P.info? e = some j)
    (hb : (Instr.sliceBounds true len cap (lo.map a.eval) (hi.map a.eval) none).run P w = .ok (l, h, cap) w) (ho : o.op = .slice t x lo hi none) :
    (execOp a.eval o).run P w = .ok (.value (.slice (if cap = l then ad else ad.map (·.add (l * j.size))) (h - l) (cap - l))) w := by
  have hel : P.elem t = e := by simp [Program.elem, hu]
  have hu' : P.underlying t = some (.slice (P.elem t)) := by rw [hel]; exact hu
  have hse : (sizeOf e).run P w = .ok j.size w := by simp [sizeOf, typeInfo, hj]
  simp only [execOp, ho, ax, Sem.run_bind, Option.map_none, run_sliceAt_slice w t _ _ _ _ hu', run_slice_any w t _ _ _ hu', hb, Result.andThen_ok, hel, hse, sliced, Sem.run_pure]
theorem sub_is {E : Env} {r : Row SV} {v : Value} (hi : Is E (.rw r) v) {l h : Nat} (h1 : l ≤ h) (h2 : h ≤ r.len) {ad : Option Addr} {cap : Nat} (hv : v = .slice ad r.len cap) :
    Is E (.rw (r.sub l h)) (.slice (if cap = l then ad else ad.map (·.add (l * r.size))) (h - l) (cap - l)) := by
  cases hi with
  | rw0 _ ad' c' h0 hc' =>
    simp only [Value.slice.injEq] at hv
    obtain ⟨rfl, _, rfl⟩ := hv
    have hl : l = 0 := by omega
    have hh : h = 0 := by omega
    subst hl hh
    simp only [Nat.sub_self, Nat.sub_zero]
    refine .rw0 _ _ _ (by cases r <;> simp [Row.sub, Row.len]) fun hn => ?_
    refine hc' ?_
    split at hn
    · exact hn
    · simpa using hn
  | rw _ b q c vs k1 k2 k3 k4 k5 k6 k7 =>
    simp only [Value.slice.injEq] at hv
    obtain ⟨rfl, _, rfl⟩ := hv
    obtain ⟨s1, s2, s3, s4⟩ := Row.sub_spec k1 h1 h2
    have hall := All.part (E := E) ⟨k5, k7⟩ (l * r.size) ((h - l) * r.size)
    rw [← s4] at hall
    by_cases hc : c = l
    · subst hc
      have hz : (r.sub c h).len = 0 := by rw [s2]; omega
      have hz' : h - c = 0 := by omega
      rw [if_pos rfl, ← s2]
      have hcells : (r.sub c h).cells = [] := List.eq_nil_of_length_eq_zero (by rw [Row.cells_len s1, hz]; simp)
      exact .rw _ b q _ [] s1 (by omega) k3 k4 (by rw [hcells]; rfl) (by simp) (by simp)
    · rw [if_neg hc, ← s2]
      simp only [Option.map_some, Addr.add_lit]
      refine .rw _ b _ _ _ s1 (by omega) k3 k4 hall.1 (fun j u hu => ?_) hall.2
      rw [List.getElem?_take] at hu
      split at hu
      · rw [List.getElem?_drop] at hu
        rw [Nat.add_assoc]
        exact k6 _ u hu
      · cases hu
theorem sub_sound (hs : SimW n W A0 s a w β σ) (hd : ∀ d, o.dst = some d → W.okd n d) {t e : TypeId} {x : Operand} {x' : SO} {lo hi : Option Operand} {lo' hi' : Option SO} (hx : cO x = some x') (hlo : cOpt lo = some lo') (hhi : cOpt hi = some hi') (hu : P.underlying t = some (.slice e)) {r0 : Row SV} (hr0 : row0 P e = some r0)
    {r : Row SV} (hsz : r.size = r0.size) (hr : rowAt s.mem (x'.ev s) = some r) {l h : Int} (hb : bnds r.len lo' hi' ((lo'.toList ++ hi'.toList).map (SO.ev s)) = some (l, h)) (h0 : 0 ≤ l) (h1 : l ≤ h) (h2 : h ≤ r.len) (ho : o.op = .slice t x lo hi none)
    (hK : ∀ a' w', Sim n W A0 ((setL s (own0 s.mem (x'.ev s))).put o.dst (.rw (r.sub l.toNat h.toNat))) a' w' → K a' w') : o.wp P a w K Q := by
  obtain ⟨j, hj, hjs, hj0, _⟩ := row0_spec hr0
  have hne : x'.ev s ≠ .unk := by intro he; rw [he] at hr; simp [rowAt] at hr
  have ax := eval_of hs hx hne
  obtain ⟨ad, cap, hv, hle⟩ : ∃ ad cap, a.eval x = .slice ad r.len cap ∧ r.len ≤ cap := by
    rcases row_read hs hr ax with ⟨⟨ad, cc, h1, hcc⟩, h2, _⟩ | ⟨b, q, cc, news, h1, h2, _⟩
    · exact ⟨ad, cc, by rw [h2]; exact h1, by omega⟩
    · exact ⟨_, _, h1, h2⟩
  have hbr := bnds_run (P := P) (w := w) (isSlice := true) hs hlo hhi hb h0 h1 h2 hle
  have hrun := sub_run (P := P) (w := w) hv hu hj hbr ho
  rw [hjs, ← hsz] at hrun
  have fin : ∀ {s1 : St} {σ1 : Nat → Sl}, SimW n W A0 s1 a w β σ1 → Is (env A0 s1 w β σ1) (.rw r) (a.eval x) → s1 = setL s (own0 s.mem (x'.ev s)) → o.wp P a w K Q := fun {s1 σ1} hs1 hi1 he => by
    unfold Oper.wp
    rw [hrun]
    subst he
    exact hK _ _ ⟨_, _, hs1.put o.dst hd (.inr (sub_is hi1 (by omega) (by omega) hv))⟩
  generalize hvx : x'.ev s = vx at hr ax fin
  cases vx <;> simp only [rowAt] at hr <;> try (cases hr; done)
  case rw r' =>
    simp only [Option.some.injEq] at hr; subst hr
    exact fin hs ax (by simp [own0, setL])
  case nn r' =>
    simp only [Option.some.injEq] at hr; subst hr
    refine fin hs ?_ (by simp [own0, setL])
    generalize a.eval x = u at ax
    cases ax with
    | nn _ ad l c h => exact h
  case sl d g =>
    split at hr
    · rename_i g' e' r' hm
      split at hr
      · rename_i hg
        simp only [Option.some.injEq] at hr; subst hr hg
        obtain ⟨hle', hs1⟩ := freeze hs hm
        have hval := sl_val hs ax (by rw [hm]; rfl)
        refine fin hs1 ?_ (by simp [own0, hm, setL])
        have := hs1.mem d
        simp only [St.setm, setM, if_true] at this
        rw [hval]
        exact this
      · cases hr
    · rename_i g' r' hm
      split at hr
      · rename_i hg
        simp only [Option.some.injEq] at hr; subst hr hg
        have hval := sl_val hs ax (by rw [hm]; rfl)
        refine fin hs ?_ (by simp [own0, hm, setL])
        have := hs.mem d
        rw [hm] at this
        rw [hval]
        exact this
      · cases hr
    · cases hr
theorem subN_yld (hs : SimW n W A0 s a w β σ) {t e : TypeId} {x : Operand} {x' : SO} {lo hi : Option Operand} {lo' hi' : Option SO} (hx : cO x = some x') (hlo : cOpt lo = some lo') (hhi : cOpt hi = some hi') (hu : P.underlying t = some (.slice e)) {r0 : Row SV} (hr0 : row0 P e = some r0)
    (ex : x'.ev s = .nil) {l h : Int} (hb : bnds 0 lo' hi' ((lo'.toList ++ hi'.toList).map (SO.ev s)) = some (l, h)) (h0 : l = 0) (h1 : h = 0) (ho : o.op = .slice t x lo hi none) : Yld P A0 s a w β σ o .nil := by
  obtain ⟨j, hj, hjs, hj0, _⟩ := row0_spec hr0
  have ax := eval_of hs hx (by simp [ex])
  rw [ex] at ax
  subst h0 h1
  have hbr := bnds_run (P := P) (w := w) (isSlice := true) hs hlo hhi hb (Int.le_refl _) (Int.le_refl _) (Int.le_refl _) (Nat.le_refl _)
  have hrun := sub_run (P := P) (w := w) ax.nil_inv hu hj hbr ho
  exact ⟨_, hrun, .inr (by simpa using Is.nil)⟩
/-- A part of a slice of our own that is not let go: for copies. -/
theorem part_yld (hs : SimW n W A0 s a w β σ) {t e : TypeId} {x : Operand} {x' : SO} {lo hi : Option Operand} {lo' hi' : Option SO} (hx : cO x = some x') (hlo : cOpt lo = some lo') (hhi : cOpt hi = some hi') (hu : P.underlying t = some (.slice e)) {r0 : Row SV} (hr0 : row0 P e = some r0) (hsz : r0.size = 1)
    {d g e' : Nat} {k : IntKind} {l : List Int} (ex : x'.ev s = .sl d g) (hm : s.mem d = .row g e' (.ints k l)) {b1 b2 : Int} (hb : bnds l.length lo' hi' ((lo'.toList ++ hi'.toList).map (SO.ev s)) = some (b1, b2)) (hpos : 0 < l.length) (h0 : 0 ≤ b1) (h1 : b1 ≤ b2) (h2 : b2 ≤ (l.length : Int)) (ho : o.op = .slice t x lo hi none) :
    Yld P A0 s a w β σ o (.prt d g b1.toNat (b2 - b1).toNat) := by
  obtain ⟨j, hj, hjs, hj0, _⟩ := row0_spec hr0
  have ax := eval_of hs hx (by simp [ex])
  rw [ex] at ax
  have hrow : rowAt s.mem (.sl d g) = some (.ints k l) := by simp [rowAt, hm]
  have hval := sl_val hs ax (by rw [hm]; rfl)
  rcases row_read hs hrow ax with ⟨_, e3, _⟩ | ⟨b, q, c, vs, e3, e4, _⟩
  · simp only [Row.len] at e3; omega
  have e4' : l.length ≤ c := e4
  have hbr := bnds_run (P := P) (w := w) (isSlice := true) hs hlo hhi hb h0 h1 h2 e4'
  have hrun := sub_run (P := P) (w := w) e3 hu hj hbr ho
  refine ⟨_, hrun, .inr ?_⟩
  have hσ : (σ d).a = some ⟨b, q, none⟩ := by
    rw [hval] at e3
    simp only [Sl.val, Value.slice.injEq] at e3
    exact e3.1
  refine .prt d g _ _ g _ _ _ (by show (s.mem d).ver = some g; rw [hm]; rfl) (Nat.le_refl _) fun _ => ⟨b, q, hσ, by omega, fun hp => ?_⟩
  rw [if_neg (by omega)]
  simp only [Option.map_some, Addr.add_lit, hjs, hsz, Nat.mul_one]
theorem own_addr (hs : SimW n W A0 s a w β σ) {d g e : Nat} {r : Row SV} (hm : s.mem d = .row g e r) : ((σ d).val = .slice none 0 0 ∧ r.len = 0) ∨ ∃ b c, (σ d).val = .slice (some ⟨b, 0, none⟩) r.len c := by
  have hc := hs.mem d
  rw [hm] at hc
  obtain ⟨hw, hmn, vs, hown, hall⟩ := hc
  have hown' : ownsM w e r.size (σ d).val r.len vs := hown
  rcases hown'.2 with h | ⟨b', cap, cur, fz, f1, _⟩
  · exact .inl h
  · exact .inr ⟨b', cap, f1⟩
theorem cpy_dst (hs : SimW n W A0 s a w β σ) {x : Operand} {x' : SO} (hx : cO x = some x') {d g e : Nat} {k : IntKind} {l : List Int} {a0 m : Nat} (h : cpyDst s.mem (x'.ev s) = some (d, g, e, k, l, a0, m)) :
    s.mem d = .row g e (.ints k l) ∧ e < 1000000 ∧ ∃ ad cap, a.eval x = .slice ad m cap ∧ (0 < m → ∃ b c, (σ d).val = .slice (some ⟨b, 0, none⟩) l.length c ∧ ad = some ⟨b, a0, none⟩) := by
  have hne : x'.ev s ≠ .unk := by intro he; rw [he] at h; simp [cpyDst] at h
  have ax := eval_of hs hx hne
  generalize x'.ev s = vx at h ax
  unfold cpyDst at h
  split at h
  · rename_i d1 g1
    split at h
    case h_2 => cases h
    rename_i g' e' k' l' hm
    split at h
    case isFalse => cases h
    rename_i hg
    simp only [Option.some.injEq, Prod.mk.injEq] at h
    obtain ⟨rfl, rfl, rfl, rfl, rfl, rfl, rfl⟩ := h
    obtain ⟨rfl, he⟩ := hg
    refine ⟨hm, he, ?_⟩
    have hval := sl_val hs ax (by rw [hm]; rfl)
    rcases own_addr hs hm with ⟨q1, q2⟩ | ⟨b, c, q1⟩
    · simp only [Row.len] at q2
      exact ⟨none, 0, by rw [hval, q1, q2], fun hh => by omega⟩
    · exact ⟨some ⟨b, 0, none⟩, c, by rw [hval, q1]; rfl, fun _ => ⟨b, c, q1, rfl⟩⟩
  · rename_i d1 g1 a1 n1
    split at h
    case h_2 => cases h
    rename_i g' e' k' l' hm
    split at h
    case isFalse => cases h
    rename_i hg
    simp only [Option.some.injEq, Prod.mk.injEq] at h
    obtain ⟨rfl, rfl, rfl, rfl, rfl, rfl, rfl⟩ := h
    obtain ⟨rfl, he⟩ := hg
    refine ⟨hm, he, ?_⟩
    generalize hu : a.eval x = u at ax
    cases ax
    rename_i cur ad n' c h1 h2 h3
    have h1' : (s.mem d1).ver = some cur := h1
    rw [hm] at h1'
    simp only [Cel.ver, Option.some.injEq] at h1'
    obtain ⟨b, q, i1, i2, i3⟩ := h3 h1'
    have i1' : (σ d1).a = some ⟨b, q, none⟩ := i1
    subst i2
    refine ⟨ad, c, rfl, fun hh => ?_⟩
    rcases own_addr hs hm with ⟨q1, q2⟩ | ⟨b', c', q1⟩
    · simp only [Sl.val, Value.slice.injEq] at q1
      rw [q1.1] at i1'; cases i1'
    · have q2 := q1
      simp only [Sl.val, Value.slice.injEq] at q2
      rw [q2.1] at i1'
      simp only [Option.some.injEq, Addr.mk.injEq, and_true] at i1'
      obtain ⟨rfl, rfl⟩ := i1'
      exact ⟨b', c', q1, by rw [i3 hh, Nat.zero_add]⟩
  · cases h
theorem ints_vals {E : Env} {k : IntKind} {l : List Int} {vs : List Value} (h : All E (Row.ints k l : Row SV).cells vs) : vs = l.map (Value.int k) := by
  apply List.ext_getElem?
  intro j
  have hl := h.1
  simp only [Row.cells, List.length_map] at hl
  by_cases hj : j < l.length
  · have hx : (Row.ints k l : Row SV).cells[j]? = some (.int k l[j]) := by simp [Row.cells, hj]
    obtain ⟨u, hu, hi⟩ := h.get hx
    rw [hu, hi.int_inv]; simp [hj]
  · rw [List.getElem?_eq_none (by omega), List.getElem?_eq_none (by simp; omega)]
theorem ints_all {E : Env} (k : IntKind) (l : List Int) : All E (Row.ints k l : Row SV).cells (l.map (Value.int k)) := ⟨by simp [Row.cells], fun j x u hx hu => by
  simp only [Row.cells, List.getElem?_map] at hx hu
  cases hr : l[j]? with
  | none => rw [hr] at hx; cases hx
  | some i =>
    rw [hr] at hx hu
    simp only [Option.map_some, Option.some.injEq] at hx hu
    subst hx hu
    exact .int _ _⟩
theorem cpy_src (hs : SimW n W A0 s a w β σ) {y : Operand} {y' : SO} (hy : cO y = some y') {q : Prop} {k : IntKind} {xs : List Int} (h : cpySrc s.mem (y'.ev s) = some (q, k, xs)) (hq : q) :
    ∃ ad cap, a.eval y = .slice ad xs.length cap ∧ (0 < xs.length → ∃ b p, ad = some ⟨b, p, none⟩ ∧ ∀ j v, xs[j]? = some v → w.cell? ⟨b, p + j, none⟩ = some (.int k v)) := by
  have hne : y'.ev s ≠ .unk := by intro he; rw [he] at h; simp [cpySrc, rowAt] at h
  have ay := eval_of hs hy hne
  have rowc : ∀ {x : SV} {l : List Int} {v : Value}, rowAt s.mem x = some (.ints k l) → Is (env A0 s w β σ) x v → ∃ ad cap, v = .slice ad l.length cap ∧ (0 < l.length → ∃ b p, ad = some ⟨b, p, none⟩ ∧ ∀ j v, l[j]? = some v → w.cell? ⟨b, p + j, none⟩ = some (.int k v)) := fun {x l v} hr hi => by
    rcases row_read hs hr hi with ⟨⟨ad, cc, q1, _⟩, q3, _⟩ | ⟨b, p, cc, vs, q1, q2, q3, q4, q5, q6⟩
    · have q3' : l.length = 0 := q3
      exact ⟨ad, cc, by rw [q1, q3'], fun hh => by omega⟩
    · refine ⟨_, cc, q1, fun _ => ⟨b, p, rfl, fun j v hj => ?_⟩⟩
      have := ints_vals q5
      subst this
      exact q6 j _ (by rw [List.getElem?_map, hj]; rfl)
  generalize y'.ev s = vy at h ay
  unfold cpySrc at h
  split at h
  · rename_i d g a1 n1
    split at h
    case h_2 => cases h
    rename_i k' l' hr
    simp only [Option.some.injEq, Prod.mk.injEq] at h
    obtain ⟨rfl, rfl, rfl⟩ := h
    generalize hu : a.eval y = u at ay
    cases ay
    rename_i cur ad n' c h1 h2 h3
    have h1' : (s.mem d).ver = some cur := h1
    have hcur : g = cur := by
      simp only [rowAt] at hr
      split at hr
      · rename_i g' e r' hm
        rw [hm] at h1'
        simp only [Cel.ver, Option.some.injEq] at h1'
        split at hr
        · rename_i hg; rw [hg]; exact h1'
        · cases hr
      · rename_i g' r' hm
        rw [hm] at h1'
        simp only [Cel.ver, Option.some.injEq] at h1'
        split at hr
        · rename_i hg; rw [hg]; exact h1'
        · cases hr
      · cases hr
    obtain ⟨b, p, i1, i2, i3⟩ := h3 hcur
    have i1' : (σ d).a = some ⟨b, p, none⟩ := i1
    have hsl : Is (env A0 s w β σ) (.sl d g) (σ d).val := .sl d g cur _ _ _ h1 h2 (fun _ => rfl)
    have hlen : ((l'.drop a1).take n1).length = n1 := by rw [List.length_take, List.length_drop]; omega
    obtain ⟨ad2, cap2, j1, j2⟩ := rowc hr hsl
    refine ⟨ad, c, by rw [hlen, i2], fun hh => ?_⟩
    rw [hlen] at hh
    obtain ⟨b2, p2, j3, j4⟩ := j2 (by omega)
    simp only [Sl.val, Value.slice.injEq] at j1
    rw [j1.1, j3] at i1'
    simp only [Option.some.injEq, Addr.mk.injEq, and_true] at i1'
    obtain ⟨rfl, rfl⟩ := i1'
    refine ⟨b2, p2 + a1, i3 hh, fun j v hj => ?_⟩
    rw [List.getElem?_take] at hj
    split at hj
    · rw [List.getElem?_drop] at hj
      rw [Nat.add_assoc]
      exact j4 _ v hj
    · cases hj
  · split at h
    case h_2 => cases h
    rename_i k' l' hr
    simp only [Option.some.injEq, Prod.mk.injEq] at h
    obtain ⟨rfl, rfl, rfl⟩ := h
    exact rowc hr ay
theorem cpy_sound (hs : SimW n W A0 s a w β σ) (hdst : ∀ d, o.dst = some d → W.okd n d) {c : Call} (ho : o.op = .call c) (hcal : c.callee = .builtin .copy) {t t' : TypeId} {x y : Operand} {x' y' : SO} (ht : c.argTypes.toList = [t, t']) (hxy : c.args.toList = [x, y]) (hx : cO x = some x') (hy : cO y = some y')
    {et : TypeId} (hu : P.underlying t = some (.slice et)) {r0 : Row SV} (hr0 : row0 P et = some r0) (hsz : r0.size = 1) {d g e : Nat} {k : IntKind} {l : List Int} {a0 m : Nat} (hd : cpyDst s.mem (x'.ev s) = some (d, g, e, k, l, a0, m)) {q : Prop} {xs : List Int} (hsrc : cpySrc s.mem (y'.ev s) = some (q, k, xs)) (hq : q) (hle : a0 + m ≤ l.length)
    (hK : ∀ a' w', Sim n W A0 ((s.setm d (.row g e (.ints k (cpyL l a0 (xs.take m))))).put o.dst (.int .i64 (xs.take m).length)) a' w' → K a' w') : o.wp P a w K Q := by
  obtain ⟨j, hj, hjs, hj0, _⟩ := row0_spec hr0
  obtain ⟨hm, he, ad, cap, ax, hda⟩ := cpy_dst hs hx hd
  obtain ⟨ad2, cap2, ay, hsa⟩ := cpy_src hs hy hsrc hq
  have ha : c.args = #[x, y] := by rw [← Array.toArray_toList (xs := c.args), hxy]
  have hat : c.argTypes = #[t, t'] := by rw [← Array.toArray_toList (xs := c.argTypes), ht]
  have hsz1 : (P.info? et).map (·.size) = some 1 := by rw [hj]; simp [hjs, hsz]
  have hlen : (xs.take m).length = Nat.min xs.length m := by rw [List.length_take, Nat.min_comm]
  have fin : ∀ {ty : TypeId} {w' : World}, (Builtin.copy_ #[t, t'] ty #[.slice ad m cap, .slice ad2 xs.length cap2]).run P w = .ok (goInt (xs.take m).length) w' → ty = o.type → (execOp a.eval o).run P w = .ok (.value (.int .i64 (xs.take m).length)) w' := fun {ty w'} hr hty => by
    subst hty
    simp [execOp, ho, resolve, hcal, ha, hat, invoke, builtin, ax, ay, hr, goInt]
  unfold Oper.wp
  by_cases hz : (xs.take m).length = 0
  · have hr0 := run_copy_none (P := P) w t t' o.type et ad ad2 m cap xs.length cap2 hu hsz1 (by rw [← hlen]; exact hz)
    have hr := fin (ty := o.type) (w' := w) (by rw [hz]; exact hr0) rfl
    rw [hr]
    have hnil : xs.take m = [] := List.eq_nil_of_length_eq_zero hz
    have hl : cpyL l a0 (xs.take m) = l := by rw [hnil]; simp [cpyL]
    have hst : s.setm d (.row g e (.ints k (cpyL l a0 (xs.take m)))) = s := by
      rw [hl]
      have : setM s.mem d (.row g e (.ints k l)) = s.mem := by
        funext t
        by_cases htd : t = d
        · subst htd; simp [setM, hm]
        · simp [setM, htd]
      unfold St.setm
      rw [this]
    rw [hst] at hK
    exact hK _ _ ⟨β, σ, hs.put o.dst hdst (.inr (.int _ _))⟩
  · have hm0 : 0 < m := by rw [List.length_take] at hz; omega
    have hx0 : 0 < xs.length := by rw [List.length_take] at hz; omega
    obtain ⟨b, cc, e2, rfl⟩ := hda hm0
    obtain ⟨b2, p2, rfl, hcells⟩ := hsa hx0
    have hc := hs.mem d
    rw [hm] at hc
    obtain ⟨hw, hmn, vs, hown, hall⟩ := hc
    have hown' : ownsM w e 1 (σ d).val l.length vs := hown
    have hvs := ints_vals hall
    subst hvs
    rcases hown'.2 with ⟨h0, _⟩ | ⟨b', cap', cur, fz, f1, f3, fzz, f4, f5, f6, f7⟩
    · rw [h0] at e2; cases e2
    rw [e2] at f1
    simp only [Value.slice.injEq, Option.some.injEq, Addr.mk.injEq, and_true, true_and] at f1
    obtain ⟨rfl, rfl⟩ := f1
    have hfz : fz = (0, 0) := by
      rcases fzz with h | h
      · exact h.2
      · omega
    subst hfz
    have hbm : W.mine b := hmn b (by simp only [env, e2]; rfl)
    have hxl : ((xs.take m).map (Value.int k)).length = (xs.take m).length := List.length_map ..
    have hml : (xs.take m).length ≤ m := by rw [List.length_take]; omega
    have hcs : l.length ≤ cur.size := by omega
    have hrun := run_copy_row (P := P) w t t' o.type et b a0 m cap ⟨b2, p2, none⟩ xs.length cap2 cur (e % 1000000) ((xs.take m).map (Value.int k)) hu hsz1 f3 (by rw [hxl, hlen]) (fun j v hv => by
      rw [List.getElem?_map, List.getElem?_take] at hv
      split at hv
      · cases hxj : xs[j]? with
        | none => rw [hxj] at hv; cases hv
        | some i =>
          rw [hxj] at hv
          simp only [Option.map_some, Option.some.injEq] at hv
          subst hv
          rw [Addr.add_lit]
          exact hcells j i hxj
      · cases hv) (by rw [hxl]; omega) (fun v hv => by
      obtain ⟨i, _, rfl⟩ := List.mem_map.1 hv
      rfl)
    rw [hxl] at hrun
    rw [fin hrun rfl]
    have hblk : wblk β σ d (s.mem d) = some b := by rw [hm]; simp only [wblk, e2]; rfl
    have h := hs.one d (.row g e (.ints k (cpyL l a0 (xs.take m)))) (w.setRow b (cur.toList.take a0 ++ (xs.take m).map (Value.int k) ++ cur.toList.drop (a0 + (xs.take m).length)).toArray) (β d) (σ d)
      (hs.bel.next rfl rfl rfl (by rw [setRow_size]; exact Nat.le_refl _) (fun k hk hx => setRow_other w b k _ (fun he => Wd.not_mine hk hx (by first | (rw [he]; exact hbm) | (rw [← he]; exact hbm)))))
      (fun c hc => by rw [hm] at hc; simp [Cel.ver] at hc; subst hc; exact ⟨g, rfl, Nat.le_refl _, rfl, fun _ => rfl⟩)
      (fun k hk hne => setRow_other w b k _ (fun he => hne (by rw [hblk, he]))) (by rw [setRow_size]; exact Nat.le_refl _)
      (fun k hk => by rw [upd_self, upd_self] at hk; rw [hblk]; simp only [wblk, e2] at hk; exact .inl hk)
    rw [upd_self, upd_self] at h
    have hll : (cpyL l a0 (xs.take m)).length = l.length := by
      simp only [cpyL, List.length_append, List.length_drop]
      rw [List.length_take (i := a0)]
      omega
    have h' := h fun hle' => by
      refine ⟨trivial, hmn, _, ?_, ints_all k _⟩
      show ownsM (w.setRow b _) e 1 (σ d).val (cpyL l a0 (xs.take m)).length _
      rw [hll, e2]
      have hsz2 : (cur.toList.take a0 ++ (xs.take m).map (Value.int k) ++ cur.toList.drop (a0 + (xs.take m).length)).toArray.size = cur.size := by
        simp only [List.size_toArray, List.length_append, List.length_drop, hxl, Array.length_toList]
        rw [List.length_take (i := a0), Array.length_toList]
        omega
      refine ⟨by rw [List.length_map, hll, Nat.mul_one], .inr ⟨b, _, _, (0, 0), rfl, setRow_heap w b cur _ (e % 1000000) (0, 0) f3, .inl ⟨he, rfl⟩, f4, f5, ?_, ?_⟩⟩
      · rw [hsz2]; exact f6
      · have := take_mid (cur := cur.toList) (us := (xs.take m).map (Value.int k)) (p := a0) (N := l.length * 1) (by rw [hxl]; omega) (by rw [Array.length_toList, Nat.mul_one]; exact hcs)
        rw [hxl, f7] at this
        show List.take (l.length * 1) (cur.toList.take a0 ++ (xs.take m).map (Value.int k) ++ cur.toList.drop (a0 + (xs.take m).length)) = _
        rw [this]
        simp only [cpyL, List.map_append, List.map_take, List.map_drop]
    exact hK _ _ ⟨β, σ, h'.2.put o.dst hdst (.inr (.int _ _))⟩
end
end Go.Proofs.Ytgklfolmlcfjgaa.Y
