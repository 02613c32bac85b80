/- What the statements' own helpers half, short, num and Within hand back. -/
import Derived.Test.YtjmkmcjpppdglaaSp
import Derived.Test.YtjmkmcjpppdglaaH1
namespace Go.Proofs.Ytjmkmcjpppdglaa
open Go.RowKit Sx
def halfF : List SV → Option (Prop × SV)
  | [.agg [.int .u64 x1, .int .u64 y1]] => some (OkW x1 y1, wd (halfN (wN x1 y1)))
  | _ => none
def shortF : List SV → Option (Prop × SV)
  | [.agg [.int .u64 x1, .int .u64 y1]] => some (OkW x1 y1, wd (shortN (wN x1 y1)))
  | _ => none
def numF : List SV → Option (Prop × SV)
  | [.int .i64 n] => some (0 ≤ n ∧ n ≤ 9223372036854775807, wd n.toNat)
  | _ => none
def withinF : List SV → Option (Prop × SV)
  | [.int .i64 n, .int .i64 m] => some (1 ≤ m ∧ m ≤ 1000000000000, .int .i64 (withinN n m.toNat))
  | _ => none
theorem is_wd (w : World) (a : Nat) : Is w (wd a) (.agg #[.int .u64 (hiN a), .int .u64 (loN a)]) := ⟨[_, _], rfl, rfl, rfl, trivial⟩
theorem is1_wd (w : World) (a : Nat) : Is1 w (wd a) (.agg #[.int .u64 (hiN a), .int .u64 (loN a)]) := ⟨[_, _], rfl, rfl, rfl, trivial⟩
theorem wd0 : wd 0 = .agg [.int .u64 0, .int .u64 0] := by
  unfold wd
  rw [hiN_of_word (by unfold Word; omega), loN_of_word (by unfold Word; omega)]; rfl
theorem args_w {w : World} {x y : Int} {vs : List Value} (h : AllIs1 w [.agg [.int .u64 x, .int .u64 y]] vs) : vs = [.agg #[.int .u64 x, .int .u64 y]] := by
  match vs, h with
  | [v], ⟨⟨us, hv, hus⟩, _⟩ =>
    match us, hus with
    | [a, b], ⟨ha, hb, _⟩ => simp only [Is0] at ha hb; subst ha hb; subst hv; rfl
theorem args_ww {w : World} {x y z t : Int} {vs : List Value} (h : AllIs1 w [.agg [.int .u64 x, .int .u64 y], .agg [.int .u64 z, .int .u64 t]] vs) : vs = [.agg #[.int .u64 x, .int .u64 y], .agg #[.int .u64 z, .int .u64 t]] := by
  match vs, h with
  | v :: vs, ⟨h1, h2⟩ =>
    have e1 := args_w (w := w) (vs := [v]) ⟨h1, trivial⟩
    have e2 := args_w h2
    simp only [List.cons.injEq, and_true] at e1
    rw [e1, e2]
theorem args_wi {w : World} {x y n : Int} {vs : List Value} (h : AllIs1 w [.agg [.int .u64 x, .int .u64 y], .int .i64 n] vs) : vs = [.agg #[.int .u64 x, .int .u64 y], .int .i64 n] := by
  match vs, h with
  | [v, u], ⟨h1, h2, _⟩ =>
    have e1 := args_w (w := w) (vs := [v]) ⟨h1, trivial⟩
    simp only [List.cons.injEq, and_true] at e1
    simp only [Is1, Is0] at h2
    rw [e1, h2]
theorem args_i {w : World} {k : IntKind} {n : Int} {vs : List Value} (h : AllIs1 w [.int k n] vs) : vs = [.int k n] := by
  match vs, h with
  | [u], ⟨h2, _⟩ => simp only [Is1, Is0] at h2; rw [h2]
theorem args_ii {w : World} {k l : IntKind} {n m : Int} {vs : List Value} (h : AllIs1 w [.int k n, .int l m] vs) : vs = [.int k n, .int l m] := by
  match vs, h with
  | [u, v], ⟨h1, h2, _⟩ => simp only [Is1, Is0] at h1 h2; rw [h1, h2]
theorem isW_word' {x : Int} (h : OkW 0 x) : x = (x.toNat : Int) ∧ Word x.toNat := by
  obtain ⟨_, _, h3, h4⟩ := h
  refine ⟨by omega, by unfold Word; omega⟩

theorem add_fok : FOk Try.prog 28 addF := by
  intro xs p r h hp
  unfold addF at h
  split at h
  · rename_i x1 y1 x2 y2
    simp only [Option.some.injEq, Prod.mk.injEq] at h
    obtain ⟨rfl, rfl⟩ := h
    refine ⟨rfl, fun w vs hvs => ?_⟩
    rw [args_ww hvs]
    by_cases hf : wN x1 y1 + wN x2 y2 < 340282366920938463463374607431768211456
    · rw [show addN (wN x1 y1) (wN x2 y2) = wN x1 y1 + wN x2 y2 from if_pos hf, show addE (wN x1 y1) (wN x2 y2) = 0 from if_pos hf]
      exact (add_ok _ _ _ _ w _ _ (isW_wN hp.1) (isW_wN hp.2) (by unfold Fits; exact hf)).mono fun e w' ⟨he, hb⟩ => ⟨hb, _, he, [_, _], rfl, is1_wd w' _, rfl, trivial⟩
    · rw [show addN (wN x1 y1) (wN x2 y2) = 0 from if_neg hf, show addE (wN x1 y1) (wN x2 y2) = 2 from if_neg hf, wd0]
      exact (add_large _ _ _ _ w _ _ (isW_wN hp.1) (isW_wN hp.2) (by unfold Fits; exact hf)).mono fun e w' ⟨he, hb⟩ => ⟨hb, _, he, [_, _], rfl, ⟨[_, _], rfl, rfl, rfl, trivial⟩, rfl, trivial⟩
  · cases h
theorem sub_fok : FOk Try.prog 53 subF := by
  intro xs p r h hp
  unfold subF at h
  split at h
  · rename_i x1 y1 x2 y2
    simp only [Option.some.injEq, Prod.mk.injEq] at h
    obtain ⟨rfl, rfl⟩ := h
    refine ⟨rfl, fun w vs hvs => ?_⟩
    rw [args_ww hvs]
    by_cases hf : wN x2 y2 ≤ wN x1 y1
    · rw [show subE (wN x1 y1) (wN x2 y2) = 0 from if_pos hf]
      exact (sub_ok _ _ _ _ w _ _ (isW_wN hp.1) (isW_wN hp.2) hf).mono fun e w' ⟨he, hb⟩ => ⟨hb, _, he, [_, _], rfl, is1_wd w' _, rfl, trivial⟩
    · rw [show subE (wN x1 y1) (wN x2 y2) = 7 from if_neg hf, show wN x1 y1 - wN x2 y2 = 0 by omega, wd0]
      exact (sub_sign _ _ _ _ w _ _ (isW_wN hp.1) (isW_wN hp.2) (by omega)).mono fun e w' ⟨he, hb⟩ => ⟨hb, _, he, [_, _], rfl, ⟨[_, _], rfl, rfl, rfl, trivial⟩, rfl, trivial⟩
  · cases h
theorem cmp_fok : FOk Try.prog 21 cmpF := by
  intro xs p r h hp
  unfold cmpF at h
  split at h
  · simp only [Option.some.injEq, Prod.mk.injEq] at h
    obtain ⟨rfl, rfl⟩ := h
    refine ⟨rfl, fun w vs hvs => ?_⟩
    rw [args_ww hvs]
    exact (cmp_any _ _ _ _ w _ _ (isW_wN hp.1) (isW_wN hp.2)).mono fun e w' ⟨he, hb⟩ => ⟨hb, _, he, rfl⟩
  · cases h
theorem len_fok : FOk Try.prog 34 lenF := by
  intro xs p r h hp
  unfold lenF at h
  split at h
  · simp only [Option.some.injEq, Prod.mk.injEq] at h
    obtain ⟨rfl, rfl⟩ := h
    refine ⟨rfl, fun w vs hvs => ?_⟩
    rw [args_w hvs]
    exact (len_any _ _ w _ (isW_wN hp)).mono fun e w' ⟨he, hb⟩ => ⟨hb, _, he, rfl⟩
  · cases h
end Go.Proofs.Ytjmkmcjpppdglaa
