/- What the functions of wide and prod do, as the second walk says it: from their contracts. -/
import Derived.Test.YtlfhcjohkpdkoaaYG
import Derived.Test.YtlfhcjohkpdkoaaH1
namespace Go.Proofs.Ytlfhcjohkpdkoaa
open Go.RowKit Y
set_option linter.unusedSimpArgs false
set_option linter.unusedVariables false
def wN (x y : Int) : Nat := x.toNat * 18446744073709551616 + y.toNat
def OkW (x y : Int) : Prop := 0 ≤ x ∧ x < 18446744073709551616 ∧ 0 ≤ y ∧ y < 18446744073709551616
theorem isW_wN {x y : Int} (h : OkW x y) : IsW (wN x y) x y := by
  obtain ⟨h1, h2, h3, h4⟩ := h
  obtain ⟨n, rfl⟩ := Int.eq_ofNat_of_zero_le h1
  obtain ⟨m, rfl⟩ := Int.eq_ofNat_of_zero_le h3
  exact isW_mk n m (by omega) (by omega)
theorem wN_fits {x y : Int} (h : OkW x y) : Fits (wN x y) := (isW_wN h).1
theorem wN_hl (a : Nat) : wN (hiN a) (loN a) = a := by simp only [wN, Int.toNat_natCast]; exact words a
theorem OkW_hl (a : Nat) : OkW (hiN a) (loN a) ↔ Fits a := by
  have h1 := loN_lt a
  have h2 := words a
  unfold OkW Fits
  constructor <;> intro h <;> omega
theorem eq_hl (a b : Nat) : (((hiN a : Int) == (hiN b : Int)) && ((loN a : Int) == (loN b : Int))) = decide (a = b) := by
  rw [Bool.eq_iff_iff]
  simp only [Bool.and_eq_true, beq_iff_eq, decide_eq_true_eq, Int.natCast_inj]
  exact ⟨fun h => eq_of_words h.1 h.2, fun h => by subst h; exact ⟨rfl, rfl⟩⟩
theorem eq_h0 (a : Nat) : (((hiN a : Int) == 0) && ((loN a : Int) == 0)) = decide (a = 0) := by
  have := eq_hl a 0
  rw [hiN_of_word (a := 0) (by unfold Word; omega), loN_of_word (a := 0) (by unfold Word; omega)] at this
  exact this
theorem wN_0 (n : Nat) : wN 0 (n : Int) = n := by simp [wN]
theorem OkW_0 (n : Nat) : OkW 0 (n : Int) ↔ Word n := by
  unfold OkW Word
  constructor <;> intro h <;> omega
/-- The number a, as a value of type api.Wide. -/
def wd (a : Nat) : SV := .agg [.int .u64 (hiN a), .int .u64 (loN a)]
theorem isW_word' {x : Int} (h : OkW 0 x) : x = x.toNat ∧ Word x.toNat := by
  obtain ⟨_, _, h1, h2⟩ := h
  unfold Word; omega
theorem hl0 : ((hiN 0 : Nat) : Int) = 0 ∧ ((loN 0 : Nat) : Int) = 0 := by
  rw [hiN_of_word (a := 0) (by unfold Word; omega), loN_of_word (a := 0) (by unfold Word; omega)]; exact ⟨rfl, rfl⟩
theorem wd0 : wd 0 = .agg [.int .u64 0, .int .u64 0] := by unfold wd; rw [hl0.1, hl0.2]
theorem fits_lt {a : Nat} : Fits a ↔ a < 340282366920938463463374607431768211456 := by unfold Fits; exact Iff.rfl
theorem cmpN_le0 (a b : Nat) : (cmpN a b ≤ 0) = (a ≤ b) := propext (by have := cmpN_gt_iff a b; omega)
theorem cmpN_gt0 (a b : Nat) : (0 < cmpN a b) = (b < a) := propext (cmpN_gt_iff a b)
theorem cmpN_lt0 (a b : Nat) : (cmpN a b < 0) = (a < b) := propext (cmpN_lt_iff a b)
theorem cmpN_ge0 (a b : Nat) : (0 ≤ cmpN a b) = (b ≤ a) := propext (by have := cmpN_lt_iff a b; omega)
section
variable {E : Env} {out : Option Value}
theorem args1 {x : SV} {vs : List Value} (h : All E [x] vs) : ∃ v, vs = [v] ∧ Is E x v := by
  obtain ⟨h1, h2⟩ := h
  match vs, h1 with
  | [v], _ => exact ⟨v, rfl, h2 0 x v rfl rfl⟩
theorem args2 {x y : SV} {vs : List Value} (h : All E [x, y] vs) : ∃ u v, vs = [u, v] ∧ Is E x u ∧ Is E y v := by
  obtain ⟨h1, h2⟩ := h
  match vs, h1 with
  | [u, v], _ => exact ⟨u, v, rfl, h2 0 x u rfl rfl, h2 1 y v rfl rfl⟩
theorem is_w {x y : Int} {v : Value} (h : Is E (.agg [.int .u64 x, .int .u64 y]) v) : v = .agg #[.int .u64 x, .int .u64 y] := by
  obtain ⟨vs, rfl, h1, h2⟩ := h.agg_inv
  match vs, h1 with
  | [a, b], _ =>
    have e1 := (h2 0 _ a rfl rfl).int_inv
    have e2 := (h2 1 _ b rfl rfl).int_inv
    rw [e1, e2]
theorem isT1_w (x y : Int) : IsT1 E out (.agg [.int .u64 x, .int .u64 y]) (.agg #[.int .u64 x, .int .u64 y]) :=
  ⟨[.int .u64 x, .int .u64 y], rfl, rfl, fun j a u h1 h2 => by
    match j with
    | 0 => simp only [List.getElem?_cons_zero, Option.some.injEq] at h1 h2; subst h1 h2; exact .int _ _
    | 1 => simp only [List.getElem?_cons_succ, List.getElem?_cons_zero, Option.some.injEq] at h1 h2; subst h1 h2; exact .int _ _
    | j + 2 => simp at h1⟩
theorem isT1_wd (a : Nat) : IsT1 E out (wd a) (.agg #[.int .u64 (hiN a), .int .u64 (loN a)]) := isT1_w _ _
theorem isT1_i (k : IntKind) (x : Int) : IsT1 E out (.int k x) (.int k x) := Is.int _ _
theorem isT_2 {a b : SV} {u v : Value} (h1 : IsT1 E out a u) (h2 : IsT1 E out b v) : IsT E out (.tup [a, b]) (.tuple #[u, v]) :=
  ⟨[u, v], rfl, rfl, fun j x y k1 k2 => by
    match j with
    | 0 => simp only [List.getElem?_cons_zero, Option.some.injEq] at k1 k2; subst k1 k2; exact h1
    | 1 => simp only [List.getElem?_cons_succ, List.getElem?_cons_zero, Option.some.injEq] at k1 k2; subst k1 k2; exact h2
    | j + 2 => simp at k1⟩
theorem isT_3 {a b c : SV} {u v w : Value} (h1 : IsT1 E out a u) (h2 : IsT1 E out b v) (h3 : IsT1 E out c w) : IsT E out (.tup [a, b, c]) (.tuple #[u, v, w]) :=
  ⟨[u, v, w], rfl, rfl, fun j x y k1 k2 => by
    match j with
    | 0 => simp only [List.getElem?_cons_zero, Option.some.injEq] at k1 k2; subst k1 k2; exact h1
    | 1 => simp only [List.getElem?_cons_succ, List.getElem?_cons_zero, Option.some.injEq] at k1 k2; subst k1 k2; exact h2
    | 2 => simp only [List.getElem?_cons_succ, List.getElem?_cons_zero, Option.some.injEq] at k1 k2; subst k1 k2; exact h3
    | j + 3 => simp at k1⟩
end
theorem fun_is {P : Program} {f : Nat} {fn : Func} (h : P.funcs[f]? = some fn) (hn : (fn.name == "runtime.NumGoroutine") = false) (hb : fn.body.isSome = true) : FunIs P f := ⟨fn, h, by simpa using hn, hb⟩
/-- From an older contract. -/
theorem take_ok {P : Program} {f : Nat} {xs : List SV} {r : SV} (hlt : f < 1000000) (hF : FunIs P f)
    (h : ∀ (A : Nat → Prop) (w : World) (vs : List Value), All (E0 w A) xs vs → Calls P f vs.toArray w fun e w' => Below w.heap.size w w' ∧ ∃ v, e = .returned v ∧ ∀ E : Env, IsT E none r v) : FunOk P f xs r none :=
  .of hlt ⟨hF, fun A w vs _ hvs => (h A w vs hvs).mono fun e w' ⟨hb, v, he, hT⟩ => ⟨hb, v, he, none, rfl, hT _⟩⟩
def wAddN (a b : Nat) : Nat := if a + b < 340282366920938463463374607431768211456 then a + b else 0
def wAddE (a b : Nat) : Int := if a + b < 340282366920938463463374607431768211456 then 0 else 2
def wSubE (a b : Nat) : Int := if b ≤ a then 0 else 7
def wMulN (a b : Nat) : Nat := if a * b < 340282366920938463463374607431768211456 then a * b else 0
def wMulE (a b : Nat) : Int := if a * b < 340282366920938463463374607431768211456 then 0 else 2
def wDivE (b : Nat) : Int := if b = 0 then 6 else 0
def wDivQ (a b : Nat) : Nat := if b = 0 then 0 else a / b
def wDivR (a b : Nat) : Nat := if b = 0 then 0 else a % b
theorem wDivQ_pos {a b : Nat} (h : b ≠ 0) : wDivQ a b = a / b := if_neg h
theorem wDivR_pos {a b : Nat} (h : b ≠ 0) : wDivR a b = a % b := if_neg h
def wShlN (a : Nat) (n : Int) : Nat := if 0 ≤ n ∧ n ≤ 127 ∧ a * 2 ^ n.toNat < 340282366920938463463374607431768211456 then a * 2 ^ n.toNat else 0
def wShlE (a : Nat) (n : Int) : Int := if 0 ≤ n ∧ n ≤ 127 then (if a * 2 ^ n.toNat < 340282366920938463463374607431768211456 then 0 else 2) else 1
def wShrN (a : Nat) (n : Int) : Nat := if 0 ≤ n ∧ n ≤ 127 then a / 2 ^ n.toNat else 0
def wShrE (n : Int) : Int := if 0 ≤ n ∧ n ≤ 127 then 0 else 1
def wAddS : Say
  | [.agg [.int .u64 x1, .int .u64 y1], .agg [.int .u64 x2, .int .u64 y2]] => some (OkW x1 y1 ∧ OkW x2 y2, .tup [wd (wAddN (wN x1 y1) (wN x2 y2)), .int .i64 (wAddE (wN x1 y1) (wN x2 y2))], none)
  | _ => none
theorem wAdd_ok : FOk Try.prog 86 wAddS := by
  intro xs p r own h hp
  unfold wAddS at h
  split at h
  · rename_i x1 y1 x2 y2
    simp only [Option.some.injEq, Prod.mk.injEq] at h
    obtain ⟨rfl, rfl, rfl⟩ := h
    refine take_ok (by decide) (fun_is Try.func86 (by kernel_rfl) (by kernel_rfl)) fun A w vs hvs => ?_
    obtain ⟨u, v, rfl, hu, hv⟩ := args2 hvs
    rw [is_w hu, is_w hv]
    by_cases hf : wN x1 y1 + wN x2 y2 < 340282366920938463463374607431768211456
    · rw [show wAddN (wN x1 y1) (wN x2 y2) = wN x1 y1 + wN x2 y2 from if_pos hf, show wAddE (wN x1 y1) (wN x2 y2) = 0 from if_pos hf]
      exact (wadd_ok _ _ _ _ w _ _ (isW_wN hp.1) (isW_wN hp.2) (by unfold Fits; exact hf)).mono fun e w' ⟨he, hb⟩ => ⟨hb, _, he, fun E => isT_2 (isT1_wd _) (isT1_i _ _)⟩
    · rw [show wAddN (wN x1 y1) (wN x2 y2) = 0 from if_neg hf, show wAddE (wN x1 y1) (wN x2 y2) = 2 from if_neg hf, wd0]
      exact (add_large _ _ _ _ w _ _ (isW_wN hp.1) (isW_wN hp.2) (by unfold Fits; exact hf)).mono fun e w' ⟨he, hb⟩ => ⟨hb, _, he, fun E => isT_2 (isT1_w _ _) (isT1_i _ _)⟩
  · cases h
def wCmpS : Say
  | [.agg [.int .u64 x1, .int .u64 y1], .agg [.int .u64 x2, .int .u64 y2]] => some (OkW x1 y1 ∧ OkW x2 y2, .int .i64 (cmpN (wN x1 y1) (wN x2 y2)), none)
  | _ => none
theorem wCmp_ok : FOk Try.prog 71 wCmpS := by
  intro xs p r own h hp
  unfold wCmpS at h
  split at h
  · rename_i x1 y1 x2 y2
    simp only [Option.some.injEq, Prod.mk.injEq] at h
    obtain ⟨rfl, rfl, rfl⟩ := h
    refine take_ok (by decide) (fun_is Try.func71 (by kernel_rfl) (by kernel_rfl)) fun A w vs hvs => ?_
    obtain ⟨u, v, rfl, hu, hv⟩ := args2 hvs
    rw [is_w hu, is_w hv]
    exact (cmp_any _ _ _ _ w _ _ (isW_wN hp.1) (isW_wN hp.2)).mono fun e w' ⟨he, hb⟩ => ⟨hb, _, he, fun E => Is.int _ _⟩
  · cases h
def wLenS : Say
  | [.agg [.int .u64 x1, .int .u64 y1]] => some (OkW x1 y1, .int .i64 (bitLen (wN x1 y1)), none)
  | _ => none
theorem wLen_ok : FOk Try.prog 72 wLenS := by
  intro xs p r own h hp
  unfold wLenS at h
  split at h
  · rename_i x1 y1
    simp only [Option.some.injEq, Prod.mk.injEq] at h
    obtain ⟨rfl, rfl, rfl⟩ := h
    refine take_ok (by decide) (fun_is Try.func72 (by kernel_rfl) (by kernel_rfl)) fun A w vs hvs => ?_
    obtain ⟨u, rfl, hu⟩ := args1 hvs
    rw [is_w hu]
    exact (len_any _ _ w _ (isW_wN hp)).mono fun e w' ⟨he, hb⟩ => ⟨hb, _, he, fun E => Is.int _ _⟩
  · cases h
def wShlS : Say
  | [.agg [.int .u64 x1, .int .u64 y1], .int .i64 n] => some (OkW x1 y1, .tup [wd (wShlN (wN x1 y1) n), .int .i64 (wShlE (wN x1 y1) n)], none)
  | _ => none
theorem wShl_ok : FOk Try.prog 73 wShlS := by
  intro xs p r own h hp
  unfold wShlS at h
  split at h
  · rename_i x1 y1 n
    simp only [Option.some.injEq, Prod.mk.injEq] at h
    obtain ⟨rfl, rfl, rfl⟩ := h
    refine take_ok (by decide) (fun_is Try.func73 (by kernel_rfl) (by kernel_rfl)) fun A w vs hvs => ?_
    obtain ⟨u, v, rfl, hu, hv⟩ := args2 hvs
    rw [is_w hu, hv.int_inv]
    by_cases hn : 0 ≤ n ∧ n ≤ 127
    · by_cases hf : wN x1 y1 * 2 ^ n.toNat < 340282366920938463463374607431768211456
      · rw [show wShlN (wN x1 y1) n = wN x1 y1 * 2 ^ n.toNat from if_pos ⟨hn.1, hn.2, hf⟩, show wShlE (wN x1 y1) n = 0 from (if_pos hn).trans (if_pos hf)]
        exact (shl_e _ _ n n.toNat w _ _ (isW_wN hp) (by omega) (by omega) rfl (by unfold Fits; exact hf)).mono fun e w' ⟨he, hb⟩ => ⟨hb, _, he, fun E => isT_2 (isT1_wd _) (isT1_i _ _)⟩
      · rw [show wShlN (wN x1 y1) n = 0 from if_neg (fun h => hf h.2.2), show wShlE (wN x1 y1) n = 2 from (if_pos hn).trans (if_neg hf), wd0]
        obtain ⟨m, rfl⟩ := Int.eq_ofNat_of_zero_le hn.1
        exact (shl_large _ _ m w _ (isW_wN hp) (by omega) (by unfold Fits; exact hf)).mono fun e w' ⟨he, hb⟩ => ⟨hb, _, he, fun E => isT_2 (isT1_w _ _) (isT1_i _ _)⟩
    · rw [show wShlN (wN x1 y1) n = 0 from if_neg (fun h => hn ⟨h.1, h.2.1⟩), show wShlE (wN x1 y1) n = 1 from if_neg hn, wd0]
      exact (shl_arg x1 y1 n w (by omega)).mono fun e w' ⟨he, hb⟩ => ⟨hb, _, he, fun E => isT_2 (isT1_w _ _) (isT1_i _ _)⟩
  · cases h
def pMulS : Say
  | [.int .u64 x, .int .u64 y] => some (OkW 0 x ∧ OkW 0 y, wd (x.toNat * y.toNat), none)
  | _ => none
theorem pMul_ok : FOk Try.prog 92 pMulS := by
  intro xs p r own h hp
  unfold pMulS at h
  split at h
  · rename_i x y
    simp only [Option.some.injEq, Prod.mk.injEq] at h
    obtain ⟨rfl, rfl, rfl⟩ := h
    refine take_ok (by decide) (fun_is Try.func92 (by kernel_rfl) (by kernel_rfl)) fun A w vs hvs => ?_
    obtain ⟨u, v, rfl, hu, hv⟩ := args2 hvs
    rw [hu.int_inv, hv.int_inv]
    obtain ⟨e1, w1⟩ := isW_word' hp.1
    obtain ⟨e2, w2⟩ := isW_word' hp.2
    exact (mul_c x y w _ _ e1 e2 w1 w2).mono fun e w' ⟨he, hb⟩ => ⟨hb, _, he, fun E => isT1_wd _⟩
  · cases h
end Go.Proofs.Ytlfhcjohkpdkoaa
