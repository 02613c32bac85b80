/- What is plain of tables of peers, further: added and dropped, in either order; heard. -/
import Derived.Test.YtgklfolmlcfjgaaYPp
namespace Go.Proofs.Ytgklfolmlcfjgaa
open Go.ChangeShapes Go.WideShapes Go.ChangeAt Go.RowKit Go.Joins Y
set_option linter.unusedSimpArgs false
set_option linter.unusedVariables false
set_option maxRecDepth 100000
set_option maxHeartbeats 40000000
theorem valB_iff {n : Int} : valB n = true ↔ 0 ≤ n ∧ n ≤ 16777216 := by simp [valB]
theorem listE_one {n : Int} (h : 0 ≤ n ∧ n ≤ 16777216) : listE [n] = 0 := listE_0.2 ⟨by simp, by simp [h]⟩
theorem adL_len (l : List Pr) (id : List UInt8) (size first now : Int) : (adL l id size first now).length = l.length + 1 := (adL_perm l id size first now).length_eq
theorem adL_ok {l : List Pr} {id : List UInt8} {size first now : Int} (hl : psE l = 0) (ha : adE l id size first now = 0) : psE (adL l id size first now) = 0 := by
  obtain ⟨h1, h2, h3⟩ := psE_iff.1 hl
  obtain ⟨a1, a2, a3, a4, a5, a6⟩ := adE_0.1 ha
  refine psE_iff.2 ⟨by rw [adL_len]; omega, fun p hp => ?_, adL_sorted size first now h3 (fdN_no.1 a5)⟩
  rcases List.mem_cons.1 ((adL_perm l id size first now).mem_iff.1 hp) with rfl | hp
  · exact ⟨a1, (show gateE 0 0 0 = 0 by decide), winE_0.2 ⟨a2, by simp; omega, listE_one (valB_iff.1 a3)⟩, a4⟩
  · exact h2 p hp
theorem adL_get {l : List Pr} {id : List UInt8} {size first now : Int} : (adL l id size first now).getD (atP l id l.length 0) default = ⟨id, 0, 0, 0, size, [first], now⟩ ∧ ∀ j, j < atP l id l.length 0 → (adL l id size first now).getD j default = l.getD j default := by
  have hle := (atP_le l id l.length 0).2
  have hlen : (l.take (atP l id l.length 0)).length = atP l id l.length 0 := by rw [List.length_take]; omega
  unfold adL
  rw [List.append_assoc]
  refine ⟨?_, fun j hj => ?_⟩
  · rw [List.getD_eq_getElem?_getD, List.getElem?_append_right (by omega), hlen, Nat.sub_self]; rfl
  · rw [List.getD_eq_getElem?_getD, List.getElem?_append_left (by omega), List.getElem?_take, if_pos hj, List.getD_eq_getElem?_getD]
theorem adL_find {l : List Pr} {id : List UInt8} {size first now : Int} (hn : ∀ p ∈ l, p.id ≠ id) : fdN (adL l id size first now) id (adL l id size first now).length 0 = atP l id l.length 0 := by
  have hle := (atP_le l id l.length 0).2
  obtain ⟨g1, g2⟩ := adL_get (l := l) (id := id) (size := size) (first := first) (now := now)
  refine fdN_is (by rw [adL_len]; omega) (by rw [g1]) fun j hj => ?_
  rw [g2 j hj, getP (by omega)]
  exact hn _ (List.getElem_mem _)
/-- Drop undoes Add. -/
theorem adL_drop {l : List Pr} {id : List UInt8} {size first now : Int} (hn : ∀ p ∈ l, p.id ≠ id) : drE (adL l id size first now) id = 0 ∧ drR (adL l id size first now) id = l := by
  have hle := (atP_le l id l.length 0).2
  have h1 : drE (adL l id size first now) id = 0 := by rw [drE, adL_find hn, if_neg (by omega)]
  refine ⟨h1, ?_⟩
  rw [drR, if_pos h1, adL_find hn, Int.toNat_natCast, drL]
  have hlen : (l.take (atP l id l.length 0)).length = atP l id l.length 0 := by rw [List.length_take]; omega
  unfold adL
  generalize atP l id l.length 0 = k at *
  have e1 : (l.take k ++ [(⟨id, 0, 0, 0, size, [first], now⟩ : Pr)] ++ l.drop k).take k = l.take k := by rw [List.append_assoc, List.take_append_of_le_length (by omega), List.take_of_length_le (by omega)]
  have e2 : (l.take k ++ [(⟨id, 0, 0, 0, size, [first], now⟩ : Pr)] ++ l.drop k).drop (k + 1) = l.drop k := by rw [List.append_assoc, List.drop_append, hlen, List.drop_of_length_le (by omega), show k + 1 - k = 1 by omega]; rfl
  rw [e1, e2, List.take_append_drop]
theorem adL_again {l : List Pr} {id : List UInt8} {size first now : Int} (ha : adE l id size first now = 0) : adE (adL l id size first now) id size first now = 5 := by
  obtain ⟨a1, a2, a3, a4, a5, a6⟩ := adE_0.1 ha
  rw [adE, if_pos a1, if_pos a2, if_pos a3, if_pos a4, adL_find (fdN_no.1 a5), if_pos (by omega)]
theorem sorted_eq {l m : List Pr} (hp : l.Perm m) (h1 : SrtP l) (h2 : SrtP m) : l = m :=
  List.Perm.eq_of_pairwise (le := fun p q : Pr => bl p.id q.id) (fun p q _ _ h3 h4 => absurd (bl_trans h3 h4) (bl_irrefl _)) h1 h2 hp
/-- In whichever order. -/
theorem adL_comm {l : List Pr} {a b : List UInt8} {size first now : Int} (hl : psE l = 0) (h1 : adE l a size first now = 0) (h2 : adE (adL l a size first now) b size first now = 0) (h3 : adE l b size first now = 0) (h4 : adE (adL l b size first now) a size first now = 0) : adL (adL l a size first now) b size first now = adL (adL l b size first now) a size first now := by
  have s1 := (psE_iff.1 (adL_ok (adL_ok hl h1) h2)).2.2
  have s2 := (psE_iff.1 (adL_ok (adL_ok hl h3) h4)).2.2
  refine sorted_eq ?_ s1 s2
  refine (adL_perm ..).trans (((adL_perm l a size first now).cons _).trans ?_)
  refine (List.Perm.swap ..).trans ?_
  exact ((adL_perm l b size first now).cons _).symm.trans (adL_perm ..).symm
theorem heE_0 {l : List Pr} {id : List UInt8} {i s now : Int} : heE l id i s now = 0 ↔ chkE id i s = 0 ∧ (0 ≤ now ∧ now ≤ 1073741824) ∧ ∃ k : Nat, fdN l id l.length 0 = k ∧ k < l.length ∧ (l.getD k default).id = id ∧ (l.getD k default).last ≤ now := by
  unfold heE
  by_cases c1 : chkE id i s = 0
  case neg => rw [if_neg c1]; simp [c1]
  rw [if_pos c1]
  by_cases c2 : 0 ≤ now ∧ now ≤ 1073741824
  case neg => rw [if_neg c2]; simp [c2]
  rw [if_pos c2]
  by_cases c3 : fdN l id l.length 0 < 0
  · rw [if_pos c3]
    constructor
    · intro h; cases h
    · rintro ⟨_, _, k, h, _⟩; omega
  rw [if_neg c3]
  obtain ⟨k, hk, hk1, hk2⟩ := fdN_at (l := l) (id := id) (by omega)
  rw [hk, Int.toNat_natCast]
  by_cases c4 : now < (l.getD k default).last
  · rw [if_pos c4]
    constructor
    · intro h; cases h
    · rintro ⟨_, _, k', h, _, _, h5⟩
      have : k' = k := by omega
      subst this; omega
  · rw [if_neg c4]
    exact ⟨fun _ => ⟨c1, c2, k, rfl, hk1, hk2, by omega⟩, fun _ => rfl⟩
theorem set_getP {l : List Pr} {k j : Nat} {p : Pr} (hk : k < l.length) : (l.set k p).getD j default = if j = k then p else l.getD j default := by
  rw [List.getD_eq_getElem?_getD, List.getElem?_set]
  by_cases e : j = k
  · subst e; rw [if_pos rfl, if_pos hk, if_pos rfl]; rfl
  · rw [if_neg (Ne.symm e), if_neg e, List.getD_eq_getElem?_getD]
theorem set_map {l : List Pr} {k : Nat} {p : Pr} (hk : k < l.length) (h : p.id = (l.getD k default).id) : (l.set k p).map Pr.id = l.map Pr.id := by
  apply List.ext_getElem?
  intro j
  rw [List.getElem?_map, List.getElem?_map, List.getElem?_set]
  by_cases e : k = j
  · subst e
    rw [if_pos rfl, if_pos hk, List.getElem?_eq_getElem hk, Option.map_some, Option.map_some, h, getP hk]
  · rw [if_neg e]
theorem set_sorted {l : List Pr} {k : Nat} {p : Pr} (hk : k < l.length) (h : p.id = (l.getD k default).id) (hs : SrtP l) : SrtP (l.set k p) := by
  have h1 : (l.map Pr.id).Pairwise bl := List.pairwise_map.2 hs
  rw [← set_map hk h] at h1
  exact List.pairwise_map.1 h1
/-- Names differ. -/
theorem ids_ne {l : List Pr} (hs : SrtP l) {i j : Nat} (hi : i < l.length) (hj : j < l.length) (h : (l.getD i default).id = (l.getD j default).id) : i = j := by
  rw [getP hi, getP hj] at h
  rcases Nat.lt_trichotomy i j with c | c | c
  · have := List.pairwise_iff_getElem.1 hs i j hi hj c
    rw [h] at this
    exact absurd this (bl_irrefl _)
  · exact c
  · have := List.pairwise_iff_getElem.1 hs j i hj hi c
    rw [h] at this
    exact absurd this (bl_irrefl _)
theorem ltV_bd {now last : Int} (h : last ≤ now) : 0 ≤ ltV now last ∧ ltV now last ≤ 16777216 := by unfold ltV; split <;> omega
theorem heP_ok {p : Pr} {i s now : Int} (hp : OkP p) (hi : (0 ≤ i ∧ i < 2147483648) ∧ 1 ≤ s ∧ s < 2147483648) (hn : (0 ≤ now ∧ now ≤ 1073741824) ∧ p.last ≤ now) : OkP (heP p i s now) ∧ (heP p i s now).id = p.id ∧ takE (heP p i s now).inc (heP p i s now).seq (heP p i s now).drops i s = 0 ∧ takB (heP p i s now).inc (heP p i s now).seq (heP p i s now).drops i s = false ∧ (heP p i s now).last ≤ now := by
  obtain ⟨h1, h2, h3, h4, h5⟩ := hp
  obtain ⟨g1, g2, g3, g4⟩ := gateE_0.1 h2
  obtain ⟨w1, w2, w3⟩ := winE_0.1 h3
  obtain ⟨w4, w5⟩ := listE_0.1 w3
  cases hb : newB p.inc p.seq i s with
  | true =>
    obtain ⟨t1, t2, t3, t4, t5⟩ := tak_t (c := p.drops) ⟨h2, hi.1, hi.2⟩ hb
    have hP : heP p i s now = ⟨p.id, i, s, p.drops, p.cap, heV p now, now⟩ := by rw [heP, if_pos t5, t2, t3, t4]
    rw [hP]
    have hg : gateE i s p.drops = 0 := gateE_0.2 ⟨hi.1, by omega, g3, fun h => by omega⟩
    have hnb : newB i s i s = false := by simp [newB]
    obtain ⟨u1, _, _, _, u5⟩ := tak_f (a := i) (b := s) (c := p.drops) ⟨hg, hi.1, hi.2⟩ hnb
    refine ⟨⟨h1, hg, ?_, hn.1⟩, rfl, u1, u5, Int.le_refl _⟩
    have hb2 := ltV_bd hn.2
    refine winE_0.2 ⟨w1, ?_, listE_0.2 ⟨?_, fun x hx => ?_⟩⟩
    · simp only [heV, List.length_drop, List.length_append, List.length_cons, List.length_nil]; split <;> omega
    · simp only [heV, List.length_drop, List.length_append, List.length_cons, List.length_nil]; split <;> omega
    · rcases List.mem_append.1 (List.mem_of_mem_drop hx) with h | h
      · exact w5 x h
      · simp only [List.mem_singleton] at h; subst h; exact hb2
  | false =>
    obtain ⟨t1, t2, t3, t4, t5⟩ := tak_f (c := p.drops) ⟨h2, hi.1, hi.2⟩ hb
    have hP : heP p i s now = ⟨p.id, p.inc, p.seq, takD p.inc p.seq p.drops i s, p.cap, p.vals, p.last⟩ := by rw [heP, if_neg (by rw [t5]; decide), t2, t3]
    rw [hP, t4]
    have hg : gateE p.inc p.seq (if p.drops = 1073741824 then p.drops else p.drops + 1) = 0 := gateE_0.2 ⟨g1, g2, by split <;> omega, g4⟩
    obtain ⟨u1, _, _, _, u5⟩ := tak_f (c := if p.drops = 1073741824 then p.drops else p.drops + 1) ⟨hg, hi.1, hi.2⟩ hb
    exact ⟨⟨h1, hg, h3, h4, h5⟩, rfl, u1, u5, hn.2⟩
/-- Who was heard once is not heard again by the same beat. -/
theorem he_again {l : List Pr} {id : List UInt8} {i s now : Int} (hl : psE l = 0) (he : heE l id i s now = 0) : psE (heR l id i s now) = 0 ∧ heE (heR l id i s now) id i s now = 0 ∧ heB (heR l id i s now) id i s now = false ∧ (heR l id i s now).length = l.length := by
  obtain ⟨h1, h2, h3⟩ := psE_iff.1 hl
  obtain ⟨e1, e2, k, e3, e4, e5, e6⟩ := heE_0.1 he
  have hi := chkE_0.1 e1
  have hR : heR l id i s now = l.set k (heP (l.getD k default) i s now) := by rw [heR, if_pos he, e3, Int.toNat_natCast]
  have hok : OkP (l.getD k default) := by rw [getP e4]; exact h2 _ (List.getElem_mem _)
  obtain ⟨p1, p2, p3, p4, p5⟩ := heP_ok (i := i) (s := s) (now := now) hok ⟨by omega, by omega⟩ ⟨e2, e6⟩
  have hs := set_sorted e4 p2 h3
  have hg : (l.set k (heP (l.getD k default) i s now)).getD k default = heP (l.getD k default) i s now := by rw [set_getP e4, if_pos rfl]
  have hlen : (l.set k (heP (l.getD k default) i s now)).length = l.length := List.length_set
  have hps : psE (l.set k (heP (l.getD k default) i s now)) = 0 := psE_iff.2 ⟨by rw [hlen]; exact h1, fun p hp => by
    rcases List.mem_or_eq_of_mem_set hp with h | h
    · exact h2 p h
    · subst h; exact p1, hs⟩
  have hf : fdN (l.set k (heP (l.getD k default) i s now)) id (l.set k (heP (l.getD k default) i s now)).length 0 = k := by
    refine fdN_is (by rw [hlen]; exact e4) (by rw [hg, p2]; exact e5) fun j hj hh => ?_
    rw [set_getP e4, if_neg (by omega), ← e5] at hh
    have := ids_ne h3 (by omega) e4 hh
    omega
  have hE : heE (l.set k (heP (l.getD k default) i s now)) id i s now = 0 := heE_0.2 ⟨e1, e2, k, hf, by rw [hlen]; exact e4, by rw [hg, p2]; exact e5, by rw [hg]; exact p5⟩
  rw [hR]
  exact ⟨hps, hE, by rw [heB, if_pos hE, hf, Int.toNat_natCast, hg]; exact p4, hlen⟩
/-- What Add, Drop and Hear of peers answer, Check's errors first. -/
def apE (l : List Pr) (id : List UInt8) (size first now : Int) : Int := if psE l = 0 then adE l id size first now else psE l
def apR (l : List Pr) (id : List UInt8) (size first now : Int) : List Pr := if psE l = 0 then adR l id size first now else []
def dpE (l : List Pr) (id : List UInt8) : Int := if psE l = 0 then drE l id else psE l
def dpR (l : List Pr) (id : List UInt8) : List Pr := if psE l = 0 then drR l id else []
def hpE (l : List Pr) (id : List UInt8) (i s now : Int) : Int := if psE l = 0 then heE l id i s now else psE l
def hpR (l : List Pr) (id : List UInt8) (i s now : Int) : List Pr := if psE l = 0 then heR l id i s now else []
def hpB (l : List Pr) (id : List UInt8) (i s now : Int) : Bool := if psE l = 0 then heB l id i s now else false
theorem apE_0 {l : List Pr} {id : List UInt8} {size first now : Int} (h : apE l id size first now = 0) : psE l = 0 ∧ adE l id size first now = 0 ∧ apR l id size first now = adL l id size first now := by
  unfold apE at h
  by_cases c : psE l = 0
  · rw [if_pos c] at h
    exact ⟨c, h, by rw [apR, if_pos c, adR, if_pos h]⟩
  · rw [if_neg c] at h; exact absurd h c
theorem apR_no {l : List Pr} {id : List UInt8} {size first now : Int} (h : apE l id size first now ≠ 0) : apR l id size first now = [] := by
  unfold apE at h
  unfold apR
  by_cases c : psE l = 0
  · rw [if_pos c] at h ⊢; exact if_neg h
  · rw [if_neg c]
theorem hpE_0 {l : List Pr} {id : List UInt8} {i s now : Int} (h : hpE l id i s now = 0) : psE l = 0 ∧ heE l id i s now = 0 ∧ hpR l id i s now = heR l id i s now ∧ hpB l id i s now = heB l id i s now := by
  unfold hpE at h
  by_cases c : psE l = 0
  · rw [if_pos c] at h
    exact ⟨c, h, if_pos c, if_pos c⟩
  · rw [if_neg c] at h; exact absurd h c
theorem hpR_no {l : List Pr} {id : List UInt8} {i s now : Int} (h : hpE l id i s now ≠ 0) : hpR l id i s now = [] ∧ hpB l id i s now = false := by
  unfold hpE at h
  unfold hpR hpB
  by_cases c : psE l = 0
  · rw [if_pos c] at h
    rw [if_pos c, if_pos c]
    exact ⟨if_neg h, if_neg h⟩
  · rw [if_neg c, if_neg c]; exact ⟨rfl, rfl⟩
/-- The names are texts, the windows lists that the walk may count. -/
def SmP (l : List Pr) : Prop := ∀ p ∈ l, p.id.length ≤ 140737488355328
theorem SmP_of {l : List Pr} (h : ∀ p ∈ l, PrOk p) : SmP l := fun p hp => by have := (h p hp).1; omega
theorem okP_sm {l : List Pr} (h : psE l = 0) : SmP l ∧ (∀ p ∈ l, p.vals.length ≤ 4294967296) ∧ l.length ≤ 1000 := by
  obtain ⟨h1, h2, h3⟩ := psE_iff.1 h
  refine ⟨fun p hp => ?_, fun p hp => ?_, by omega⟩
  · have := isIdB_len (h2 p hp).1; omega
  · obtain ⟨w1, w2, _⟩ := winE_0.1 (h2 p hp).2.2.1; omega
/-- One peer of which all is zero, with no window: what Check says of such lists. -/
def isZ : List (List SV) → Bool
  | [[.str [], .int .i64 0, .int .i64 0, .int .i64 0, .int .i64 0, .nil, .int .i64 0]] => true
  | _ => false
def chkR (x : List (List SV)) : Option (Prop × Int) := match toPs x with
  | some l => some (SmP l, psE l)
  | none => if isZ x = true then some (True, 3) else none
def chkV : SV → Option (Prop × Int)
  | .rw (.recs 7 x) => chkR x
  | .nn (.recs 7 x) => chkR x
  | .nil => some (True, 0)
  | _ => none
theorem chkR_mapP (l : List Pr) : chkR (mapP l) = some (SmP l, psE l) := by rw [chkR, toPs_mapP]
theorem chkR_z : chkR [[.str [], .int .i64 0, .int .i64 0, .int .i64 0, .int .i64 0, .nil, .int .i64 0]] = some (True, 3) := rfl
theorem isZ_eq {x : List (List SV)} (h : isZ x = true) : x = [[.str [], .int .i64 0, .int .i64 0, .int .i64 0, .int .i64 0, .nil, .int .i64 0]] := by
  unfold isZ at h
  split at h
  · rfl
  · cases h
theorem psE_nil : psE [] = 0 := rfl
theorem apE_no {l : List Pr} (h : psE l ≠ 0) (id : List UInt8) (size first now i s : Int) : apE l id size first now = psE l ∧ apR l id size first now = [] ∧ dpE l id = psE l ∧ dpR l id = [] ∧ hpE l id i s now = psE l ∧ hpR l id i s now = [] ∧ hpB l id i s now = false := ⟨if_neg h, if_neg h, if_neg h, if_neg h, if_neg h, if_neg h, if_neg h⟩
theorem apE_yes {l : List Pr} (h : psE l = 0) (id : List UInt8) (size first now i s : Int) : apE l id size first now = adE l id size first now ∧ apR l id size first now = adR l id size first now ∧ dpE l id = drE l id ∧ dpR l id = drR l id ∧ hpE l id i s now = heE l id i s now ∧ hpR l id i s now = heR l id i s now ∧ hpB l id i s now = heB l id i s now := ⟨if_pos h, if_pos h, if_pos h, if_pos h, if_pos h, if_pos h, if_pos h⟩
/-- What is answered may be compared. -/
theorem adR_sm {l : List Pr} (h : psE l = 0) (id : List UInt8) (size first now : Int) : (adR l id size first now).length ≤ 1000 ∧ ∀ p ∈ adR l id size first now, p.vals.length ≤ 4294967296 := by
  unfold adR
  by_cases c : adE l id size first now = 0
  · rw [if_pos c]
    obtain ⟨_, h2, h3⟩ := okP_sm (adL_ok h c)
    exact ⟨h3, h2⟩
  · rw [if_neg c]; simp
theorem drR_sm {l : List Pr} (h : psE l = 0) (id : List UInt8) : (drR l id).length ≤ 1000 ∧ ∀ p ∈ drR l id, p.vals.length ≤ 4294967296 := by
  obtain ⟨_, h2, h3⟩ := okP_sm h
  unfold drR
  split
  · refine ⟨?_, fun p hp => ?_⟩
    · simp only [drL, List.length_append, List.length_take, List.length_drop]; omega
    · rcases List.mem_append.1 hp with h | h
      · exact h2 p (List.mem_of_mem_take h)
      · exact h2 p (List.mem_of_mem_drop h)
  · simp
theorem heR_sm {l : List Pr} (h : psE l = 0) (id : List UInt8) (i s now : Int) : (heR l id i s now).length ≤ 1000 ∧ ∀ p ∈ heR l id i s now, p.vals.length ≤ 4294967296 := by
  by_cases c : heE l id i s now = 0
  · obtain ⟨_, h2, h3⟩ := okP_sm (he_again h c).1
    exact ⟨h3, h2⟩
  · rw [heR, if_neg c]; simp
def zRow : Row SV := .recs 7 [[.str [], .int .i64 0, .int .i64 0, .int .i64 0, .int .i64 0, .nil, .int .i64 0]]
def pchkS : Say
  | [x] => (match chkV x with | some (p, e) => some (p, .int .i64 e, none) | none => none)
  | _ => none
/-- What is said of lists that may be read as peers, and of the one that is all zero. -/
theorem chk_of {P : Program} {F : Nat} (hF : F < 1000000) (h1 : ∀ l : List Pr, SmP l → FunOk P F [.rw (.recs 7 (mapP l))] (.int .i64 (psE l)) none) (h2 : FunOk P F [.rw zRow] (.int .i64 3) none) : FOk P F pchkS := by
  intro xs p r own h hp
  unfold pchkS at h
  split at h
  case h_2 => cases h
  rename_i x
  split at h
  case h_2 => cases h
  rename_i q e hx
  simp only [Option.some.injEq, Prod.mk.injEq] at h
  obtain ⟨rfl, rfl, rfl⟩ := h
  have key : ∀ {y : List (List SV)}, chkR y = some (q, e) → FunOk P F [.rw (.recs 7 y)] (.int .i64 e) none := fun {y} hy => by
    unfold chkR at hy
    split at hy
    · rename_i l hl
      simp only [Option.some.injEq, Prod.mk.injEq] at hy
      obtain ⟨rfl, rfl⟩ := hy
      rw [toPs_eq _ hl]
      exact h1 l hp
    · split at hy
      · rename_i hz
        simp only [Option.some.injEq, Prod.mk.injEq] at hy
        obtain ⟨rfl, rfl⟩ := hy
        rw [isZ_eq hz]
        exact h2
      · cases hy
  unfold chkV at hx
  split at hx
  · rename_i y
    exact key hx
  · rename_i y
    refine fun_fit (ys := [.rw (.recs 7 y)]) (key hx) ⟨by simp [fitR1, fitR0], trivial⟩ hF
  · simp only [Option.some.injEq, Prod.mk.injEq] at hx
    obtain ⟨rfl, rfl⟩ := hx
    have := h1 [] (fun p hp => by cases hp)
    exact fun_fit (ys := [.rw (.recs 7 (mapP []))]) this ⟨by simp [fitR1, fitR0, Row.len, mapP], trivial⟩ hF
  · cases hx
end Go.Proofs.Ytgklfolmlcfjgaa
