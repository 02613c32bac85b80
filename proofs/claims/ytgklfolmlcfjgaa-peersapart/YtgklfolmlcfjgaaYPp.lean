/- What is plain of tables of peers: their order, one more, one fewer, one that was heard. -/
import Derived.Test.YtgklfolmlcfjgaaYPh
namespace Go.Proofs.Ytgklfolmlcfjgaa
open Go.ChangeShapes Go.WideShapes Go.ChangeAt Go.RowKit Go.Joins Y
set_option linter.unusedSimpArgs false
set_option linter.unusedVariables false
set_option maxRecDepth 100000
set_option maxHeartbeats 40000000
abbrev bl (a b : List UInt8) : Prop := Op.bytesLess a b = true
theorem bl_cons {a b : UInt8} {x y : List UInt8} : bl (a :: x) (b :: y) ↔ a < b ∨ (a = b ∧ bl x y) := by
  simp only [bl, Op.bytesLess, Bool.or_eq_true, decide_eq_true_eq, Bool.and_eq_true, beq_iff_eq]
theorem bl_irrefl : ∀ a : List UInt8, ¬ bl a a
  | [] => by simp [bl, Op.bytesLess]
  | a :: x => by
    rw [bl_cons]
    rintro (h | ⟨_, h⟩)
    · exact absurd h (UInt8.lt_irrefl a)
    · exact bl_irrefl x h
theorem bl_trans : ∀ {a b c : List UInt8}, bl a b → bl b c → bl a c
  | _, [], _, h, _ => by simp [bl, Op.bytesLess] at h
  | _, _ :: _, [], _, h => by simp [bl, Op.bytesLess] at h
  | [], _ :: _, _ :: _, _, _ => by simp [bl, Op.bytesLess]
  | a :: x, b :: y, c :: z, h1, h2 => by
    rw [bl_cons] at *
    rcases h1 with h1 | ⟨rfl, h1⟩
    · rcases h2 with h2 | ⟨rfl, _⟩
      · exact .inl (UInt8.lt_trans h1 h2)
      · exact .inl h1
    · rcases h2 with h2 | ⟨rfl, h2⟩
      · exact .inl h2
      · exact .inr ⟨rfl, bl_trans h1 h2⟩
theorem bl_tri : ∀ a b : List UInt8, bl a b ∨ a = b ∨ bl b a
  | [], [] => .inr (.inl rfl)
  | [], _ :: _ => .inl (by simp [bl, Op.bytesLess])
  | _ :: _, [] => .inr (.inr (by simp [bl, Op.bytesLess]))
  | a :: x, b :: y => by
    rw [bl_cons, bl_cons]
    rcases Nat.lt_trichotomy a.toNat b.toNat with h | h | h
    · exact .inl (.inl (UInt8.lt_iff_toNat_lt.2 h))
    · have e : a = b := UInt8.toNat_inj.1 h
      subst e
      rcases bl_tri x y with h | rfl | h
      · exact .inl (.inr ⟨rfl, h⟩)
      · exact .inr (.inl rfl)
      · exact .inr (.inr (.inr ⟨rfl, h⟩))
    · exact .inr (.inr (.inl (UInt8.lt_iff_toNat_lt.2 h)))
theorem not_le {a b : List UInt8} : (Op.bytesLess a b || a == b) = false ↔ bl b a := by
  constructor
  · intro h
    simp only [Bool.or_eq_false_iff, beq_eq_false_iff_ne] at h
    rcases bl_tri a b with h1 | h1 | h1
    · rw [bl, h.1] at h1; cases h1
    · exact absurd h1 h.2
    · exact h1
  · intro h
    have h1 : Op.bytesLess a b = false := by
      cases hh : Op.bytesLess a b with
      | false => rfl
      | true => exact absurd (bl_trans hh h) (bl_irrefl a)
    have h2 : (a == b) = false := by
      rw [beq_eq_false_iff_ne]; intro e; subst e; exact bl_irrefl a h
    rw [h1, h2]; rfl
/-- A peer that may be. -/
def OkP (p : Pr) : Prop := isIdB p.id = true ∧ gateE p.inc p.seq p.drops = 0 ∧ winE p.cap p.vals = 0 ∧ 0 ≤ p.last ∧ p.last ≤ 1073741824
theorem p1E_iff {last : List UInt8} {p : Pr} : p1E last p = 0 ↔ OkP p ∧ bl last p.id := by
  constructor
  · intro h
    obtain ⟨h1, h2, h3, h4, h5⟩ := p1E_0 h
    exact ⟨⟨h1, h2, h3, h4.1, h4.2⟩, not_le.1 h5⟩
  · rintro ⟨⟨h1, h2, h3, h4, h5⟩, h6⟩
    rw [p1E, if_pos h1, if_pos h2, if_pos h3, if_pos ⟨h4, h5⟩, not_le.2 h6, if_neg (by decide)]
theorem psW_of {l : List Pr} : ∀ {n i : Nat}, (∀ j, i ≤ j → j < i + n → p1E (pvI l j) (l.getD j default) = 0) → psW l n i = 0
  | 0, _, _ => rfl
  | n + 1, i, h => by
    rw [psW, if_pos (h i (by omega) (by omega))]
    exact psW_of fun j h1 h2 => h j (by omega) (by omega)
def SrtP (l : List Pr) : Prop := l.Pairwise fun p q => bl p.id q.id
theorem bl_nil {a : List UInt8} (h : isIdB a = true) : bl [] a := by
  have := isIdB_len h
  cases a with
  | nil => simp at this
  | cons a x => simp [bl, Op.bytesLess]
theorem getP {l : List Pr} {j : Nat} (h : j < l.length) : l.getD j default = l[j] := by rw [List.getD_eq_getElem?_getD, List.getElem?_eq_getElem h, Option.getD_some]
theorem psE_iff {l : List Pr} : psE l = 0 ↔ l.length ≤ 6 ∧ (∀ p ∈ l, OkP p) ∧ SrtP l := by
  constructor
  · intro h
    obtain ⟨h1, h2⟩ := psE_0 h
    have h3 : ∀ j, j < l.length → OkP (l.getD j default) ∧ bl (pvI l j) (l.getD j default).id := fun j hj => p1E_iff.1 (h2 j hj)
    refine ⟨h1, fun p hp => ?_, List.pairwise_iff_getElem.2 ?_⟩
    · obtain ⟨j, hj, rfl⟩ := List.mem_iff_getElem.1 hp
      rw [← getP hj]; exact (h3 j hj).1
    · have key : ∀ d i, i + d + 1 < l.length → bl (l.getD i default).id (l.getD (i + d + 1) default).id := by
        intro d
        induction d with
        | zero => intro i hi; exact (h3 (i + 1) (by omega)).2
        | succ d ih =>
          intro i hi
          exact bl_trans (ih i (by omega)) ((h3 (i + (d + 1) + 1) (by omega)).2)
      intro i j hi hj hij
      have := key (j - i - 1) i (by omega)
      rw [show i + (j - i - 1) + 1 = j by omega, getP hi, getP hj] at this
      exact this
  · rintro ⟨h1, h2, h3⟩
    rw [psE, if_neg (by omega)]
    refine psW_of fun j _ hj => p1E_iff.2 ?_
    have hj' : j < l.length := by omega
    have hok := h2 _ (List.getElem_mem hj')
    rw [getP hj']
    refine ⟨hok, ?_⟩
    cases j with
    | zero => exact bl_nil hok.1
    | succ j =>
      show bl (l.getD j default).id _
      rw [getP (by omega)]
      exact List.pairwise_iff_getElem.1 h3 j (j + 1) (by omega) hj' (by omega)
/-- The place of a name that is there. -/
theorem fdN_is {l : List Pr} {id : List UInt8} {k : Nat} (hk : k < l.length) (h1 : (l.getD k default).id = id) (h2 : ∀ j, j < k → (l.getD j default).id ≠ id) : fdN l id l.length 0 = k := by
  have key : ∀ n i, i ≤ k → i + n = l.length → fdN l id n i = k := by
    intro n
    induction n with
    | zero => intro i h3 h4; omega
    | succ n ih =>
      intro i h3 h4
      rw [fdN]
      by_cases e : i = k
      · subst e; rw [if_pos h1]
      · rw [if_neg (h2 i (by omega))]; exact ih (i + 1) (by omega) (by omega)
  exact key _ _ (by omega) (by omega)
theorem fdN_no {l : List Pr} {id : List UInt8} : fdN l id l.length 0 < 0 ↔ ∀ p ∈ l, p.id ≠ id := by
  constructor
  · intro h p hp he
    have key : ∀ n i, i + n = l.length → fdN l id n i < 0 → ∀ j, i ≤ j → j < l.length → (l.getD j default).id ≠ id := by
      intro n
      induction n with
      | zero => intro i h1 _ j h2 h3; omega
      | succ n ih =>
        intro i h1 h2 j h3 h4
        rw [fdN] at h2
        by_cases c : (l.getD i default).id = id
        · rw [if_pos c] at h2; omega
        · rw [if_neg c] at h2
          by_cases e : j = i
          · subst e; exact c
          · exact ih (i + 1) (by omega) h2 j (by omega) h4
    obtain ⟨j, hj, rfl⟩ := List.mem_iff_getElem.1 hp
    have := key _ 0 (by omega) h j (by omega) hj
    rw [getP hj] at this
    exact this he
  · intro h
    rcases fdN_spec (l := l) (id := id) (n := l.length) (i := 0) (by omega) with h1 | ⟨k, h1, h2, h3, h4⟩
    · omega
    · have hk : k < l.length := by omega
      rw [getP hk] at h4
      exact absurd h4 (h _ (List.getElem_mem hk))
/-- Whoever stands ahead of the place is less, whoever stands behind is not. -/
theorem atP_spec {l : List Pr} {id : List UInt8} : ∀ (n i : Nat), i + n = l.length → (∀ j, i ≤ j → j < atP l id n i → bl (l.getD j default).id id) ∧ (atP l id n i < l.length → ¬ bl (l.getD (atP l id n i) default).id id)
  | 0, i, h => by simp only [atP]; exact ⟨fun j h1 h2 => by omega, fun h1 => by omega⟩
  | n + 1, i, h => by
    rw [atP]
    by_cases c : Op.bytesLess (l.getD i default).id id = true
    · rw [if_pos c]
      obtain ⟨h1, h2⟩ := atP_spec (l := l) (id := id) n (i + 1) (by omega)
      refine ⟨fun j h3 h4 => ?_, h2⟩
      by_cases e : j = i
      · subst e; exact c
      · exact h1 j (by omega) h4
    · rw [if_neg c]
      exact ⟨fun j h1 h2 => by omega, fun _ => c⟩
theorem take_mem {l : List Pr} {k : Nat} {p : Pr} (h : p ∈ l.take k) : ∃ j, j < k ∧ ∃ hj : j < l.length, l[j] = p := by
  obtain ⟨j, hj, rfl⟩ := List.mem_iff_getElem.1 h
  rw [List.length_take] at hj
  exact ⟨j, by omega, by omega, by simp⟩
theorem drop_mem {l : List Pr} {k : Nat} {p : Pr} (h : p ∈ l.drop k) : ∃ j, k ≤ j ∧ ∃ hj : j < l.length, l[j] = p := by
  obtain ⟨j, hj, rfl⟩ := List.mem_iff_getElem.1 h
  rw [List.length_drop] at hj
  exact ⟨k + j, by omega, by omega, by simp⟩
theorem parts {l : List Pr} {id : List UInt8} (hs : SrtP l) (hn : ∀ p ∈ l, p.id ≠ id) : (∀ p ∈ l.take (atP l id l.length 0), bl p.id id) ∧ ∀ p ∈ l.drop (atP l id l.length 0), bl id p.id := by
  obtain ⟨h1, h2⟩ := atP_spec (l := l) (id := id) l.length 0 (by omega)
  refine ⟨fun p hp => ?_, fun p hp => ?_⟩
  · obtain ⟨j, hj, hj', rfl⟩ := take_mem hp
    rw [← getP hj']; exact h1 j (by omega) hj
  · obtain ⟨j, hj, hj', rfl⟩ := drop_mem hp
    have h3 := h2 (by omega)
    rw [getP (by omega)] at h3
    have h4 : bl id (l[atP l id l.length 0]'(by omega)).id := by
      rcases bl_tri (l[atP l id l.length 0]'(by omega)).id id with h | h | h
      · exact absurd h h3
      · exact absurd h (hn _ (List.getElem_mem _))
      · exact h
    by_cases e : j = atP l id l.length 0
    · subst e; exact h4
    · exact bl_trans h4 (List.pairwise_iff_getElem.1 hs _ j (by omega) hj' (by omega))
theorem adL_perm (l : List Pr) (id : List UInt8) (size first now : Int) : (adL l id size first now).Perm (⟨id, 0, 0, 0, size, [first], now⟩ :: l) := by
  unfold adL
  rw [List.append_assoc]
  have h := List.perm_middle (a := (⟨id, 0, 0, 0, size, [first], now⟩ : Pr)) (l₁ := l.take (atP l id l.length 0)) (l₂ := l.drop (atP l id l.length 0))
  rw [List.take_append_drop] at h
  exact h
theorem adL_sorted {l : List Pr} {id : List UInt8} (size first now : Int) (hs : SrtP l) (hn : ∀ p ∈ l, p.id ≠ id) : SrtP (adL l id size first now) := by
  obtain ⟨h1, h2⟩ := parts hs hn
  unfold adL SrtP
  rw [List.append_assoc, List.pairwise_append]
  refine ⟨hs.sublist (List.take_sublist ..), ?_, fun p hp q hq => ?_⟩
  · rw [List.singleton_append, List.pairwise_cons]
    exact ⟨fun q hq => h2 q hq, hs.sublist (List.drop_sublist ..)⟩
  · rw [List.singleton_append, List.mem_cons] at hq
    rcases hq with rfl | hq
    · exact h1 p hp
    · exact bl_trans (h1 p hp) (h2 q hq)
theorem adE_0 {l : List Pr} {id : List UInt8} {size first now : Int} : adE l id size first now = 0 ↔ isIdB id = true ∧ (1 ≤ size ∧ size ≤ 64) ∧ valB first = true ∧ (0 ≤ now ∧ now ≤ 1073741824) ∧ fdN l id l.length 0 < 0 ∧ l.length ≤ 5 := by
  unfold adE
  by_cases c1 : isIdB id = true
  case neg => rw [if_neg c1]; simp [c1]
  rw [if_pos c1]
  by_cases c2 : 1 ≤ size ∧ size ≤ 64
  case neg => rw [if_neg c2]; simp [c2]
  rw [if_pos c2]
  by_cases c3 : valB first = true
  case neg => rw [if_neg c3]; simp [c3]
  rw [if_pos c3]
  by_cases c4 : 0 ≤ now ∧ now ≤ 1073741824
  case neg => rw [if_neg c4]; simp [c4]
  rw [if_pos c4]
  by_cases c5 : 0 ≤ fdN l id l.length 0
  · rw [if_pos c5]; simp; intros; omega
  rw [if_neg c5]
  by_cases c6 : 5 < l.length
  · rw [if_pos c6]; simp; intros; omega
  · rw [if_neg c6]; simp [c1, c2, c3, c4]; omega
end Go.Proofs.Ytgklfolmlcfjgaa
