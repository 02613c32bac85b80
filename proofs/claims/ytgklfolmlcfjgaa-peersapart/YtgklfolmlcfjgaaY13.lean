/- The symbolic walk is sound: regions in whatever order, all code, a function. -/
import Derived.Test.YtgklfolmlcfjgaaY12
namespace Go.Proofs.Ytgklfolmlcfjgaa.Y
open Go.RowKit
set_option linter.unusedSimpArgs false
set_option linter.unusedVariables false
section
variable {P : Program} {n : Nat} {W : Wd} {A0 : Nat → Prop} {Γ : Gam} {vs : List (Nat × Nat)}

theorem waits_listed {ops : Array Oper} {listed : Array Bool} {i j : Nat} (hw : waits ops i j = true) (h : ∀ o, ops[i]? = some o → ∀ e ∈ o.after, Region.binds .any e = true → listed.getD e.on false = true) : listed.getD j false = true := by
  unfold waits at hw
  split at hw
  · rename_i o ho
    obtain ⟨e, he, hb⟩ := Array.any_eq_true'.1 hw
    simp only [Bool.and_eq_true, beq_iff_eq] at hb
    rw [← hb.2]
    exact h o ho e he hb.1
  · cases hw
def Closed (ops : Array Oper) (listed : Array Bool) : Prop := ∀ k o, ops[k]? = some o → listed.getD k false = true → ∀ e ∈ o.after, Region.binds .any e = true → listed.getD e.on false = true
theorem waitsK_listed {ops : Array Oper} {listed : Array Bool} (hc : Closed ops listed) : ∀ (f : Nat) {i j : Nat} (_ : waitsK ops f i j = true) (_ : ∀ o, ops[i]? = some o → ∀ e ∈ o.after, Region.binds .any e = true → listed.getD e.on false = true), listed.getD j false = true
  | 0, i, j, hw, h => waits_listed hw h
  | f + 1, i, j, hw, h => by
    simp only [waitsK, Bool.or_eq_true, List.any_eq_true, Bool.and_eq_true] at hw
    rcases hw with hw | ⟨k, _, h1, h2⟩
    · exact waits_listed hw h
    · have hk := waits_listed h1 h
      exact waitsK_listed hc f h2 fun o ho => hc k o ho hk
theorem waits3_listed {ops : Array Oper} {listed : Array Bool} (hc : Closed ops listed) {i j : Nat} (hw : waits3 ops i j = true) (h : ∀ o, ops[i]? = some o → ∀ e ∈ o.after, Region.binds .any e = true → listed.getD e.on false = true) : listed.getD j false = true := by
  simp only [waits3, Bool.or_eq_true] at hw
  rcases hw with hw | hw
  · exact waitsK_listed hc 2 hw h
  · exact waitsK_listed hc 6 hw h

theorem orders_spec {ops : Array Oper} {ss : List SOp} (h : ordersOk ops ss = true) {i : Nat} {o : Oper} (ho : ops[i]? = some o) : (∀ e ∈ o.after, Region.binds .any e = true → e.on < i) ∧ ∃ si, ss[i]? = some si ∧ ∀ j, j < i → waits3 ops i j = false → ∃ sj, ss[j]? = some sj ∧ sj.comm si = true := by
  simp only [ordersOk, List.all_eq_true, List.mem_range] at h
  have hi := h i (Array.getElem?_eq_some_iff.1 ho).1
  rw [ho] at hi
  cases hs : ss[i]? with
  | none => simp [hs] at hi
  | some si =>
    simp only [hs, Bool.and_eq_true, List.all_eq_true, List.mem_range] at hi
    obtain ⟨h1, h2⟩ := hi
    refine ⟨fun e he hb => ?_, si, rfl, fun j hj hw => ?_⟩
    · have := (Array.all_eq_true'.1 h1) e he
      simpa [hb] using this
    · have := h2 j hj
      rw [hw] at this
      cases hsj : ss[j]? with
      | none => simp [hsj] at this
      | some sj => exact ⟨sj, rfl, by simpa [hsj] using this⟩

theorem any_sound {fz : Bool} (hΓ : GamOk P Γ) {ops : Array Oper} {ss : List SOp} (hr : RegOk P n W fz vs ops ss) (hord : ordersOk ops ss = true) {base : Nat} {t : St} {Q : Exit → Act → World → Prop} (hQ : ∀ a w, Sim n W A0 t a w → Q .normal a w) :
    ∀ (fuel : Nat) (listed : Array Bool) (a : Act) (w : World) (s : St) (L : List Nat), L.length = fuel → L.Pairwise (· < ·) → (∀ i, i ∈ L ↔ i < ops.size ∧ listed.getD i true = false) → Closed ops listed →
      RunI Γ base ss L s t → Sim n W A0 s a w → wpAny P .any ops Q fuel listed a w
  | 0, listed, a, w, s, L, hL, _, hmem, _, hrun, hs => by
    have : L = [] := List.length_eq_zero_iff.1 hL
    subst this
    simp only [RunI] at hrun
    subst hrun
    refine ⟨?_, hQ a w hs⟩
    apply List.eq_nil_iff_forall_not_mem.2
    intro i hi
    obtain ⟨h0, o, ho, _⟩ := mem_ready.1 hi
    exact absurd ((hmem i).2 ⟨(Array.getElem?_eq_some_iff.1 ho).1, h0⟩) (by simp)
  | fuel + 1, listed, a, w, s, L, hL, hsort, hmem, hcl, hrun, hs => by
    refine ⟨fun hnil => ?_, fun i hi => ?_⟩
    · -- the first of the list may come up
      exfalso
      cases L with
      | nil => simp at hL
      | cons i L =>
        obtain ⟨h1, h2⟩ := (hmem i).1 (List.mem_cons_self ..)
        have ho : ops[i]? = some ops[i] := Array.getElem?_eq_getElem h1
        obtain ⟨hlt, _⟩ := orders_spec hord ho
        have : i ∈ Region.ready .any ops listed := mem_ready.2 ⟨h2, _, ho, fun e he hb => by
          have hei := hlt e he hb
          cases hle : listed.getD e.on true with
          | false =>
            have hm := (hmem e.on).2 ⟨by omega, hle⟩
            rcases List.mem_cons.1 hm with hm | hm
            · omega
            · have := (List.pairwise_cons.1 hsort).1 _ hm; omega
          | true =>
            by_cases hsz : e.on < listed.size
            · simpa [hsz] using hle
            · have hi' : i < listed.size := by
                apply Nat.lt_of_not_le; intro hh
                simp [Array.getElem?_eq_none hh] at h2
              omega⟩
        rw [hnil] at this; cases this
    · obtain ⟨h0, o, ho, hall⟩ := mem_ready.1 hi
      have hiL := (hmem i).2 ⟨(Array.getElem?_eq_some_iff.1 ho).1, h0⟩
      obtain ⟨pre, post, rfl⟩ := List.append_of_mem hiL
      obtain ⟨_, si, hsi, hcomm⟩ := orders_spec hord ho
      have hpre : ∀ j ∈ pre, j < i := fun j hj => (List.pairwise_append.1 hsort).2.2 j hj i (List.mem_cons_self ..)
      have hfront := run_front (W := W) (A0 := A0) hΓ hr hsi pre post s ⟨a, w, hs⟩ (fun j hj => ⟨Nat.ne_of_lt (hpre j hj), hcomm j (hpre j hj) (by
        cases hw : waits3 ops i j with
        | false => rfl
        | true =>
          have hlj := waits3_listed hcl hw (fun o' ho' => by rw [ho] at ho'; cases ho'; exact hall)
          have := ((hmem j).1 (List.mem_append_left _ hj)).2
          exfalso
          by_cases hsz : j < listed.size
          · simp [hsz] at hlj this; rw [hlj] at this; cases this
          · simp [Array.getElem?_eq_none (Nat.le_of_not_lt hsz)] at this)⟩) hrun
      obtain ⟨so, s1, hso, hst, hrest⟩ := hfront
      have hnot : i ∉ pre ++ post := fun hm => by
        rcases List.mem_append.1 hm with hm | hm
        · exact Nat.lt_irrefl _ (hpre i hm)
        · have := (List.pairwise_cons.1 (List.pairwise_append.1 hsort).2.1).1 i hm
          exact Nat.lt_irrefl _ this
      have hisz : i < listed.size := by
        apply Nat.lt_of_not_le; intro hh
        simp [Array.getElem?_eq_none hh] at h0
      refine (stp_sound hΓ hr hso hst hs fun a' w' hs' => any_sound hΓ hr hord hQ fuel (listed.setIfInBounds i true) a' w' s1 (pre ++ post) (by simp at hL ⊢; omega) ?_ ?_ ?_ hrest hs').1
      · have := List.pairwise_append.1 hsort
        exact List.pairwise_append.2 ⟨this.1, (List.pairwise_cons.1 this.2.1).2, fun x hx y hy => this.2.2 x hx y (List.mem_cons_of_mem _ hy)⟩
      · intro k
        by_cases hk : k = i
        · subst hk
          constructor
          · intro hm; exact absurd hm hnot
          · intro hm; simp [hisz] at hm
        · rw [getD_set_ne true (Ne.symm hk), ← hmem k]
          simp [hk]
      · intro k o' ho' hlk e he hb
        by_cases hk : k = i
        · subst hk
          rw [ho] at ho'; cases ho'
          exact getD_set_true (hall e he hb)
        · rw [getD_set_ne false (Ne.symm hk)] at hlk
          exact getD_set_true (hcl k o' ho' hlk e he hb)

theorem mapM_len {α β : Type} {f : α → Option β} : ∀ {l : List α} {r : List β}, l.mapM f = some r → r.length = l.length
  | [], r, h => by simp at h; subst h; rfl
  | x :: l, r, h => by
    simp only [List.mapM_cons, Option.bind_eq_bind, Option.pure_def, Option.bind_eq_some_iff] at h
    obtain ⟨y, hy, r', hr', he⟩ := h
    simp only [Option.some.injEq] at he
    subst he
    simp [mapM_len hr']

theorem region1_sound {fz : Bool} (hΓ : GamOk P Γ) {id : Nat} {ops : Array Oper} {draw : Bool} {ss : List SOp} (hc : cRegion1 P fz n vs ops draw = some ss) (hkp : ∀ s ∈ ss, ∀ d, s.dst = some d → W.keep d = none) (hm : P.follows .mixedOrders = true) {s : St} {K : St → Prop} (hv : vcOps Γ ss (1000 * id) s K) {a : Act} {w : World} (hs : Sim n W A0 s a w) {Q : Exit → Act → World → Prop}
    (hQ : ∀ t a' w', K t → Sim n W A0 t a' w' → Q .normal a' w') : (Code.region id ops draw).wp P Q a w := by
  unfold cRegion1 at hc
  split at hc
  · cases hc
  · rename_i ss' hss
    split at hc
    · rename_i hcond
      simp only [Option.some.injEq] at hc
      subst hc
      simp only [Bool.and_eq_true, List.all_eq_true] at hcond
      have hlen : ss'.length = ops.size := by simpa using mapM_len hss
      have hr : RegOk P n W fz vs ops ss' := ⟨fun i => by simpa using mapM_get hss i, hlen, fun so hso d hd => ⟨by have := hcond.1 so hso; simpa [hd] using this, hkp so hso d hd⟩⟩
      obtain ⟨t, hrun, hK⟩ := vcOps_run (base := 1000 * id) (ss := ss') ss' 0 s K (fun j => by simp) (by simpa using hv)
      rw [hlen] at hrun
      cases draw with
      | false =>
        refine wp_region ?_
        rw [List.range_eq_range']
        exact ops_sound hΓ hr (fun a' w' hs' => hQ t a' w' hK hs') _ s a w hrun hs
      | true =>
        have hord : ordersOk ops ss' = true := by simpa using hcond.2
        refine wp_region_any hm ?_
        obtain ⟨β, σ, hs0⟩ := hs
        have hs1 : Sim n W A0 s a { w with drawn := w.drawn + 1 } := ⟨β, σ, hs0.below (⟨rfl, rfl, rfl, Nat.le_refl _, fun _ _ => rfl⟩ : Below w.heap.size w { w with drawn := w.drawn + 1 })⟩
        refine any_sound hΓ hr hord (fun a' w' hs' => hQ t a' w' hK hs') ops.size (Array.replicate ops.size false) a _ s (List.range' 0 ops.size) (by simp) ?_ ?_ ?_ hrun hs1
        · exact List.pairwise_lt_range' ..
        · intro i
          by_cases hi : i < ops.size <;> simp [List.mem_range', hi]
        · intro k o ho hk
          exfalso
          by_cases hi : k < ops.size <;> simp [hi] at hk
    · cases hc

theorem region_sound (hΓ : GamOk P Γ) {id : Nat} {ops : Array Oper} {draw : Bool} {ss : List SOp} (hc : cRegion P n vs ops draw = some ss) (hkp : ∀ s ∈ ss, ∀ d, s.dst = some d → W.keep d = none) (hm : P.follows .mixedOrders = true) {s : St} {K : St → Prop} (hv : vcOps Γ ss (1000 * id) s K) {a : Act} {w : World} (hs : Sim n W A0 s a w) {Q : Exit → Act → World → Prop}
    (hQ : ∀ t a' w', K t → Sim n W A0 t a' w' → Q .normal a' w') : (Code.region id ops draw).wp P Q a w := by
  exact region1_sound hΓ hc hkp hm hv hs hQ

/-! ### Code -/

def SE.ex : SE → Exit
  | .normal => .normal
  | .exit i => .exit i
  | .ret => .ret

theorem look_all {α : Type} {p : Nat × α → Bool} : ∀ {l : List (Nat × α)}, l.all p = true → ∀ {k : Nat} {v : α}, lookN l k = some v → p (k, v) = true
  | [], _, k, v, h => by simp [lookN] at h
  | (j, u) :: l, ha, k, v, h => by
    simp only [List.all_cons, Bool.and_eq_true] at ha
    simp only [lookN] at h
    split at h
    · rename_i hk
      simp only [Option.some.injEq] at h
      subst h hk
      exact ha.1
    · exact look_all ha.2 h
theorem frIn_spec {s : St} {M : List (Nat × Cel)} : ∀ {l : List (Nat × SV)}, frIn s M l → ∀ {t : Nat} {v : SV}, lookN l t = some v → fit1 s M (s.fr t) v
  | [], _, t, v, h => by simp [lookN] at h
  | (j, u) :: l, hf, t, v, h => by
    simp only [lookN] at h
    split at h
    · rename_i hk
      simp only [Option.some.injEq] at h
      subst h hk
      exact hf.1
    · exact frIn_spec hf.2 h
theorem memIn_spec {s : St} {M : List (Nat × Cel)} : ∀ {l : List (Nat × Cel)}, memIn s M l → ∀ {t : Nat} {v : Cel}, lookN l t = some v → fitC s M (s.mem t) v
  | [], _, t, v, h => by simp [lookN] at h
  | (j, u) :: l, hf, t, v, h => by
    simp only [lookN] at h
    split at h
    · rename_i hk
      simp only [Option.some.injEq] at h
      subst h hk
      exact hf.1
    · exact memIn_spec hf.2 h

section
variable {s : St} {a : Act} {w : World} {β : Nat → Nat} {σ : Nat → Sl} {fr : List (Nat × SV)} {mem : List (Nat × Cel)}
theorem memOf_in (hok : listsOk fr mem = true) (hm : memIn s mem mem) {d : Nat} (hd : hasN mem d = true) : (memOf mem d).ver = (s.mem d).ver ∧ wblk β σ d (memOf mem d) = wblk β σ d (s.mem d) ∧ (memOf mem d).isFresh = false := by
  simp only [listsOk, Bool.and_eq_true] at hok
  simp only [hasN] at hd
  obtain ⟨c, hc⟩ := Option.isSome_iff_exists.1 hd
  have h2 := look_all hok.2 hc
  have h3 := memIn_spec hm hc
  simp only [memOf, hc, Option.getD_some]
  cases c with
  | fresh => simp at h2
  | var T ys =>
    simp only [fitC] at h3
    cases hsd : s.mem d <;> simp only [hsd] at h3 <;> try (cases h3; done)
    exact ⟨rfl, rfl, rfl⟩
  | row g e r => simp only [fitC] at h3; rw [h3]; exact ⟨rfl, rfl, rfl⟩
  | frow g r => simp only [fitC] at h3; rw [h3]; exact ⟨rfl, rfl, rfl⟩
theorem memOf_out {d : Nat} (hd : hasN mem d = false) : memOf mem d = .fresh := by
  simp only [hasN, Option.isSome_eq_false_iff, Option.isNone_iff_eq_none] at hd
  simp [memOf, hd]
theorem weaken_le (hok : listsOk fr mem = true) (hm : memIn s mem mem) : (env A0 s w β σ).le (env A0 (St.of fr mem) w β σ) fun d => hasN mem d = true := by
  refine ⟨fun d c hd hc => ⟨c, ?_, Nat.le_refl _, rfl, fun _ => rfl⟩, fun b _ hA => ⟨rfl, ?_⟩, Nat.le_refl _⟩
  · show (memOf mem d).ver = some c
    rw [(memOf_in (β := β) (σ := σ) hok hm hd).1]
    exact hc
  · rintro (h | ⟨d, hd⟩)
    · exact hA (.inl h)
    · have hd' : wblk β σ d (memOf mem d) = some b := hd
      cases hh : hasN mem d with
      | true => rw [(memOf_in (β := β) (σ := σ) hok hm hh).2.1] at hd'; exact hA (.inr ⟨d, hd'⟩)
      | false => rw [memOf_out hh] at hd'; simp [wblk] at hd'
theorem all_has {l : List Nat} (h : l.all (hasN mem) = true) : ∀ d ∈ l, hasN mem d = true := List.all_eq_true.1 h
theorem fit0_is (hs : SimW n W A0 s a w β σ) (hok : listsOk fr mem = true) (hm : memIn s mem mem) {x y : SV} (hf : fit0 s mem x y) (hl : y.labs.all (hasN mem) = true) {v : Value} (hi : x = .unk ∨ Is (env A0 s w β σ) x v) : y = .unk ∨ Is (env A0 (St.of fr mem) w β σ) y v := by
  have hle := weaken_le (A0 := A0) (w := w) (β := β) (σ := σ) hok hm
  have same : x = y → y = .unk ∨ Is (env A0 (St.of fr mem) w β σ) y v := fun he => by
    subst he
    exact hi.imp id fun hi => hi.mono hle (all_has hl)
  cases y <;> simp only [fit0] at hf <;> try exact same hf
  case unk => exact .inl rfl
  case rw r =>
    right
    cases x <;> simp only at hf <;> try (cases hf; done)
    case rw r' => subst hf; exact (same rfl).resolve_left (by simp)
    case nil =>
      have := (hi.resolve_left (by simp)).nil_inv
      rw [this]
      exact emp_nil.is hf
    case sl d g =>
      obtain ⟨h1, h2, h3⟩ := hf
      have hi' := hi.resolve_left (by simp)
      rcases row_read hs h2 hi' with ⟨q1, q2, _⟩ | ⟨b, q, c, vs, q1, q2, q3, q4, q5, q6⟩
      · exact q1.is q2
      · by_cases hl0 : r.len = 0
        · rw [q1, hl0]; exact .rw0 _ _ _ hl0 (fun hh => by cases hh)
        rw [q1]
        have hall := q5.monoR hle (by rw [h3]; simp)
        refine .rw r b q c vs q4 q2 ?_ q3 hall.1 q6 hall.2
        rintro (hA | ⟨t, ht⟩)
        · -- a block of our caller's is none of ours
          simp only [rowAt] at h2
          split at h2
          · rename_i g' e r' hm'
            split at h2
            · rename_i hg
              subst hg
              have hval := sl_val hs hi' (by rw [hm']; rfl)
              have hc := hs.mem d
              rw [hm'] at hc
              obtain ⟨_, hmn, vs', ho, _⟩ := hc
              exact hs.apart (hmn b (by show (σ d).val.ownBlock = some b; rw [← hval, q1]; rfl)) hA
            · cases h2
          · rename_i g' r' hm'
            split at h2
            · rename_i hg
              subst hg
              have hval := sl_val hs hi' (by rw [hm']; rfl)
              have hc := hs.mem d
              rw [hm'] at hc
              have hc' : Is (env A0 s w β σ) (.rw r') (σ d).val := hc
              rw [← hval] at hc'
              simp only [Option.some.injEq] at h2
              subst h2
              exact hc'.avoid q1 hl0 (.inl hA)
            · cases h2
          · cases h2
        · have ht' : wblk β σ t (memOf mem t) = some b := ht
          cases hh : hasN mem t with
          | false => rw [memOf_out hh] at ht'; simp [wblk] at ht'
          | true =>
            rw [(memOf_in (β := β) (σ := σ) hok hm hh).2.1] at ht'
            have htd : d ≠ t := fun he => by subst he; rw [hh] at h1; cases h1
            simp only [rowAt] at h2
            split at h2
            · rename_i g' e r' hm'
              split at h2
              · rename_i hg
                subst hg
                have hval := sl_val hs hi' (by rw [hm']; rfl)
                exact hs.sep d t b htd (by rw [hm']; simp only [wblk]; rw [← hval, q1]; rfl) ht'
              · cases h2
            · rename_i g' r' hm'
              split at h2
              · rename_i hg
                subst hg
                have hval := sl_val hs hi' (by rw [hm']; rfl)
                have hc := hs.mem d
                rw [hm'] at hc
                have hc' : Is (env A0 s w β σ) (.rw r') (σ d).val := hc
                rw [← hval] at hc'
                simp only [Option.some.injEq] at h2
                subst h2
                exact hc'.avoid q1 hl0 (.inr ⟨t, ht'⟩)
              · cases h2
            · cases h2
theorem fitL_len : ∀ {xs ys : List SV}, fitL s mem xs ys → xs.length = ys.length ∧ ∀ (j : Nat) x y, xs[j]? = some x → ys[j]? = some y → fit0 s mem x y
  | [], [], _ => ⟨rfl, by simp⟩
  | [], _ :: _, h => h.elim
  | _ :: _, [], h => h.elim
  | x :: xs, y :: ys, h => by
    obtain ⟨h1, h2⟩ := fitL_len h.2
    refine ⟨by simp [h1], fun j x' y' hx hy => ?_⟩
    cases j with
    | zero => simp at hx hy; subst hx hy; exact h.1
    | succ j => exact h2 j x' y' (by simpa using hx) (by simpa using hy)
theorem fitL_is (hs : SimW n W A0 s a w β σ) (hok : listsOk fr mem = true) (hm : memIn s mem mem) {xs ys : List SV} (hf : fitL s mem xs ys) (hl : (labsL ys).all (hasN mem) = true) {vs : List Value} (hi : AllU (env A0 s w β σ) xs vs) : AllU (env A0 (St.of fr mem) w β σ) ys vs := by
  obtain ⟨h1, h2⟩ := fitL_len hf
  refine ⟨by rw [hi.1, h1], fun j y u hy hu => ?_⟩
  have hj : j < xs.length := by rw [h1]; exact (List.getElem?_eq_some_iff.1 hy).1
  have hx : xs[j]? = some xs[j] := List.getElem?_eq_getElem hj
  refine fit0_is hs hok hm (h2 j _ y hx hy) ?_ (hi.2 j _ u hx hu)
  rw [List.all_eq_true] at hl ⊢
  intro d hd
  exact hl d (mem_labsL (List.mem_of_getElem? hy) hd)
theorem fitAgg_is (hs : SimW n W A0 s a w β σ) (hok : listsOk fr mem = true) (hm : memIn s mem mem) {xs ys : List SV} (hf : fitL s mem xs ys) (hl : (labsL ys).all (hasN mem) = true) (hun : ys.all SV.one = true) {v : Value} (hi : Is (env A0 s w β σ) (.agg xs) v) : Is (env A0 (St.of fr mem) w β σ) (.agg ys) v := by
  obtain ⟨vs, rfl, hall⟩ := hi.agg_inv
  have h := (fitL_is hs hok hm hf hl hall.u).all hun
  exact .agg ys vs h.1 h.2

/-- A state that says no more. -/
theorem Sim.weaken (hs : Sim n W A0 s a w) (hok : listsOk fr mem = true) (hf : frIn s mem fr) (hm : memIn s mem mem) : Sim n W A0 (St.of fr mem) a w := by
  obtain ⟨β, σ, hs⟩ := hs
  have hle := weaken_le (A0 := A0) (w := w) (β := β) (σ := σ) hok hm
  have hok' := hok
  simp only [listsOk, Bool.and_eq_true] at hok'
  obtain ⟨ok1, ok2⟩ := hok'
  refine ⟨β, σ, hs.size, hs.defers, hs.bel, fun t ht => ?_, fun d => ?_, fun d d' b hne h1 h2 => ?_, hs.low⟩
  · cases hl : lookN fr t with
    | none => simp [St.of, St.fl, hl] at ht
    | some y =>
      have hfit := frIn_spec hf hl
      have hlab := look_all ok1 hl
      have hy : (St.of fr mem).fr t = y := by simp [St.of, St.fl, hl]
      rw [hy] at ht ⊢
      simp only [Bool.and_eq_true] at hlab
      -- what stands there
      have base : fit0 s mem (s.fr t) y → ∃ v, a.tmps[t]? = some v ∧ Is (env A0 (St.of fr mem) w β σ) y v := fun h0 => by
        by_cases hu : s.fr t = .unk
        · exfalso
          rw [hu] at h0
          cases y <;> simp only [fit0] at h0 <;> first | exact ht rfl | cases h0
        · obtain ⟨v, h1, h2⟩ := hs.fr t hu
          exact ⟨v, h1, (fit0_is hs hok hm h0 hlab.1 (.inr h2)).resolve_left ht⟩
      cases y <;> try exact base hfit
      case agg ys =>
        simp only [fit1] at hfit
        cases hx : s.fr t <;> simp only [hx] at hfit <;> try (cases hfit; done)
        obtain ⟨v, h1, h2⟩ := hs.fr t (by rw [hx]; simp)
        rw [hx] at h2
        exact ⟨v, h1, fitAgg_is hs hok hm hfit (by have := hlab.1; rw [SV.labs] at this; exact this) hlab.2 h2⟩
  · show CelOk W _ d (memOf mem d)
    cases hh : hasN mem d with
    | false => rw [memOf_out hh]; trivial
    | true =>
      have hh' := hh
      simp only [hasN] at hh'
      obtain ⟨c, hc⟩ := Option.isSome_iff_exists.1 hh'
      have h2 := look_all ok2 hc
      have h3 := memIn_spec hm hc
      have hcm : memOf mem d = c := by simp [memOf, hc]
      have hcel := hs.mem d
      rw [hcm]
      cases c with
      | fresh => trivial
      | var T ys =>
        simp only [fitC] at h3
        cases hsd : s.mem d <;> simp only [hsd] at h3 <;> try (cases h3; done)
        obtain ⟨rfl, h3⟩ := h3
        rw [hsd] at hcel
        obtain ⟨q1, vs, q2, q3⟩ := hcel
        exact ⟨q1, vs, q2, fitL_is hs hok hm h3 h2 q3⟩
      | row g e r =>
        simp only [fitC] at h3
        rw [h3] at hcel
        obtain ⟨q1, qm, vs, q2, q3⟩ := hcel
        exact ⟨q1, qm, vs, q2, q3.monoR hle (all_has h2)⟩
      | frow g r =>
        simp only [fitC] at h3
        rw [h3] at hcel
        have hcel' : Is (env A0 s w β σ) (.rw r) (σ d).val := hcel
        exact hcel'.mono hle (by rw [SV.labs]; exact all_has h2)
  · have h1' : wblk β σ d (memOf mem d) = some b := h1
    have h2' : wblk β σ d' (memOf mem d') = some b := h2
    cases hh : hasN mem d with
    | false => rw [memOf_out hh] at h1'; simp [wblk] at h1'
    | true =>
      cases hh' : hasN mem d' with
      | false => rw [memOf_out hh'] at h2'; simp [wblk] at h2'
      | true =>
        rw [(memOf_in (β := β) (σ := σ) hok hm hh).2.1] at h1'
        rw [(memOf_in (β := β) (σ := σ) hok hm hh').2.1] at h2'
        exact hs.sep d d' b hne h1' h2'

theorem look_getAll : ∀ (l : List Nat) (t : Nat), (lookN (getAll s l) t).getD .unk = .unk ∨ (lookN (getAll s l) t).getD .unk = s.fr t
  | [], t => .inl rfl
  | u :: l, t => by
    simp only [getAll, lookN]
    split
    · rename_i h; subst h; exact .inr rfl
    · exact look_getAll l t
theorem Sim.keep (hs : Sim n W A0 s a w) (live : List Nat) : Sim n W A0 (keepSt live s) a w := by
  obtain ⟨β, σ, hs⟩ := hs
  have hf : ∀ t, (keepSt live s).fr t = .unk ∨ (keepSt live s).fr t = s.fr t := fun t => look_getAll live t
  refine ⟨β, σ, hs.size, hs.defers, hs.bel, fun t ht => ?_, hs.mem, hs.sep, hs.low⟩
  rcases hf t with h | h
  · exact absurd h ht
  · rw [h] at ht ⊢; exact hs.fr t ht
end

theorem exists_min (p : Nat → Prop) : ∀ n, p n → ∃ m, p m ∧ ∀ k, p k → m ≤ k := by
  intro n
  induction n using Nat.strongRecOn with
  | _ n ih =>
    intro hn
    by_cases h : ∃ k, k < n ∧ p k
    · obtain ⟨k, hk, hp⟩ := h
      exact ih k hk hp
    · exact ⟨n, hn, fun k hk => Nat.le_of_not_lt fun hlt => h ⟨k, hlt, hk⟩⟩
open Classical in
theorem wp_loopI {ι : Type} {c : Code} {a : Act} {w : World} {Q : Exit → Act → World → Prop} (I : ι → Act → World → Prop) (μ : ι → Nat) (h₀ : ∃ i, I i a w)
    (round : ∀ i a w, I i a w → c.wp P (Exit.then (fun a' w' => ∃ j, I j a' w' ∧ μ j < μ i) Q) a w) : (Code.loop c).wp P Q a w := by
  have hmin : ∀ a w, (∃ i, I i a w) → ∃ m, (∃ i, I i a w ∧ μ i = m) ∧ ∀ k, (∃ i, I i a w ∧ μ i = k) → m ≤ k := fun a w ⟨i, hi⟩ => exists_min _ (μ i) ⟨i, hi, rfl⟩
  refine wp_loop (fun a w => ∃ i, I i a w) (fun a w => if h : ∃ i, I i a w then Classical.choose (hmin a w h) else 0) h₀ fun a w h => ?_
  obtain ⟨⟨i, hi, he⟩, _⟩ := Classical.choose_spec (hmin a w h)
  refine Code.wp_mono (fun e a' w' q => ?_) (round i a w hi)
  cases e <;> first | exact q | skip
  obtain ⟨j, hj, hlt⟩ := q
  refine ⟨⟨j, hj⟩, ?_⟩
  have h' : ∃ i, I i a' w' := ⟨j, hj⟩
  simp only [dif_pos h, dif_pos h']
  have := (Classical.choose_spec (hmin a' w' h')).2 (μ j) ⟨j, hj, rfl⟩
  omega

theorem Sim.frz : ∀ (ts : List Nat) {s : St} {a : Act} {w : World}, Sim n W A0 s a w → Sim n W A0 (frzSt ts s) a w
  | [], s, a, w, h => h
  | t :: ts, s, a, w, h => by
    obtain ⟨β, σ, hs⟩ := h
    obtain ⟨_, hs1, _, _⟩ := freezeL (own1 s.mem (s.fr t)) hs fun p hp => own1_fz _ p hp
    exact Sim.frz ts ⟨β, σ, hs1⟩
/-- The slots that are written. -/
def SC.dsts : SC → List Nat
  | .reg _ ops _ => ops.filterMap (·.dst)
  | .seq a b => a.dsts ++ b.dsts
  | .cond _ a b => a.dsts ++ b.dsts
  | .block _ b => b.dsts
  | .loop _ b => b.dsts
  | _ => []
theorem vc_sound {G : List Nat} (hΓ : GamOk P Γ) (hm : P.follows .mixedOrders = true) : ∀ (c : Code) (sc : SC), cCode P n vs G c = some sc → (∀ d ∈ sc.dsts, W.keep d = none) → ∀ (s : St) (KS : SE → St → Prop) (Q : Exit → Act → World → Prop) (a : Act) (w : World), vc Γ sc s KS → Sim n W A0 s a w →
    (∀ e t a' w', KS e t → Sim n W A0 t a' w' → Q e.ex a' w') → c.wp P Q a w := by
  intro c
  induction c with
  | skip => intro sc hc hkp s KS Q a w hv hs hQ; simp [cCode] at hc; subst hc; exact wp_skip (hQ .normal s a w hv hs)
  | label l => intro sc hc hkp s KS Q a w hv hs hQ; simp [cCode] at hc; subst hc; exact wp_label (hQ .normal s a w hv hs)
  | exit id => intro sc hc hkp s KS Q a w hv hs hQ; simp [cCode] at hc; subst hc; exact wp_exit (hQ (.exit id) s a w hv hs)
  | ret => intro sc hc hkp s KS Q a w hv hs hQ; simp [cCode] at hc; subst hc; exact wp_ret (hQ .ret s a w hv hs)
  | region id ops draw =>
    intro sc hc hkp s KS Q a w hv hs hQ
    simp only [cCode, Option.map_eq_some_iff] at hc
    obtain ⟨ss, hss, rfl⟩ := hc
    have hkp' : ∀ so ∈ ss, ∀ d, so.dst = some d → W.keep d = none := fun so hso d hd => hkp d (by
      have hmem : d ∈ ss.filterMap (·.dst) := List.mem_filterMap.2 ⟨so, hso, hd⟩
      split
      · simp only [SC.dsts, List.nil_append]; exact hmem
      · simp only [SC.dsts]; exact hmem)
    clear hkp
    split at hv
    · simp only [vc] at hv
      exact region_sound hΓ hss hkp' hm hv (hs.frz _) fun t a' w' hk hs' => hQ .normal _ a' w' hk (hs'.keep G)
    · exact region_sound hΓ hss hkp' hm hv hs fun t a' w' hk hs' => hQ .normal _ a' w' hk (hs'.keep G)
  | seq x y ihx ihy =>
    intro sc hc hkp s KS Q a w hv hs hQ
    simp only [cCode] at hc
    split at hc
    · rename_i sx sy hx hy
      simp only [Option.some.injEq] at hc; subst hc
      refine wp_seq (ihx sx hx (fun d hd => hkp d (by rw [SC.dsts]; exact List.mem_append_left _ hd)) s _ _ a w hv hs fun e t a' w' hk hs' => ?_)
      cases e with
      | normal => exact ihy sy hy (fun d hd => hkp d (by rw [SC.dsts]; exact List.mem_append_right _ hd)) t KS Q a' w' hk hs' hQ
      | exit i => exact hQ (.exit i) t a' w' hk hs'
      | ret => exact hQ .ret t a' w' hk hs'
    · cases hc
  | cond c x y ihx ihy =>
    intro sc hc hkp s KS Q a w hv hs hQ
    simp only [cCode] at hc
    split at hc
    · rename_i c' sx sy hcc hx hy
      simp only [Option.some.injEq] at hc; subst hc
      simp only [vc] at hv
      split at hv
      · rename_i b hb
        obtain ⟨β, σ, hs0⟩ := id hs
        have he := eval_of hs0 hcc (by rw [hb]; simp)
        rw [hb] at he
        exact wp_cond_split he.bool_inv (fun ht => ihx sx hx (fun d hd => hkp d (by rw [SC.dsts]; exact List.mem_append_left _ hd)) s KS Q a w (by rw [if_pos ht] at hv; exact hv) hs hQ) (fun hf => ihy sy hy (fun d hd => hkp d (by rw [SC.dsts]; exact List.mem_append_right _ hd)) s KS Q a w (by rw [if_neg (by simp [hf])] at hv; exact hv) hs hQ)
      · exact hv.elim
    · cases hc
  | block id b ih =>
    intro sc hc hkp s KS Q a w hv hs hQ
    simp only [cCode, Option.map_eq_some_iff] at hc
    obtain ⟨sb, hb, rfl⟩ := hc
    refine wp_block (ih sb hb (fun d hd => hkp d (by rw [SC.dsts]; exact hd)) s _ _ a w hv hs fun e t a' w' hk hs' => ?_)
    cases e with
    | normal => exact hQ .normal t a' w' hk hs'
    | exit i =>
      simp only at hk
      simp only [SE.ex, Exit.inBlock]
      split
      · rename_i h; rw [if_pos h] at hk; exact hQ .normal t a' w' hk hs'
      · rename_i h; rw [if_neg h] at hk; exact hQ (.exit i) t a' w' hk hs'
    | ret => exact hQ .ret t a' w' hk hs'
  | loop b ih =>
    intro sc hc hkp s KS Q a w hv hs hQ
    simp only [cCode, Option.map_eq_some_iff] at hc
    obtain ⟨sb, hb, rfl⟩ := hc
    obtain ⟨ι, F, M, I, μ, ⟨i, hi, hok, hf, hmm⟩, hround⟩ := hv
    refine wp_loopI (fun i a w => I i ∧ Sim n W A0 (St.of (F i) (M i)) a w) μ ⟨i, hi, hs.weaken hok hf hmm⟩ fun j a' w' ⟨hj, hsj⟩ => ?_
    refine ih sb hb (fun d hd => hkp d (by rw [SC.dsts]; exact hd)) _ _ _ a' w' (hround j hj) hsj fun e t a2 w2 hk hs2 => ?_
    cases e with
    | normal =>
      obtain ⟨j', ⟨h1, h2⟩, h3, h4, h5⟩ := hk
      exact ⟨j', ⟨h1, hs2.weaken h3 h4 h5⟩, h2⟩
    | exit i => exact hQ (.exit i) t a2 w2 hk hs2
    | ret => exact hQ .ret t a2 w2 hk hs2
  | rangeFunc f ps x y ihx ihy => intro sc hc; simp [cCode] at hc
  | scope b ih => intro sc hc; simp [cCode] at hc
  | goto l => intro sc hc; simp [cCode] at hc
  | refuse y => intro sc hc; simp [cCode] at hc
end
end Go.Proofs.Ytgklfolmlcfjgaa.Y
