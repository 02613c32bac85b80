/- What is said of the functions of wide and prod and of the statements' helpers, in one list. -/
import Derived.Test.YtjmkmcjpppdglaaLw
import Derived.Test.YtjmkmcjpppdglaaD3
namespace Go.Proofs.Ytjmkmcjpppdglaa
open Go.RowKit Sx
theorem num_fok : FOk Try.prog 20 numF := by
  intro xs p r h hp
  unfold numF at h
  split at h
  · rename_i n
    simp only [Option.some.injEq, Prod.mk.injEq] at h
    obtain ⟨rfl, rfl⟩ := h
    refine ⟨rfl, fun w vs hvs => ?_⟩
    rw [args_i hvs]
    exact (num_c n w n.toNat (by omega) (by omega)).mono fun e w' ⟨he, hb⟩ => ⟨hb, _, he, is_wd w' _⟩
  · cases h
theorem within_fok : FOk Try.prog 23 withinF := by
  intro xs p r h hp
  unfold withinF at h
  split at h
  · rename_i n m
    simp only [Option.some.injEq, Prod.mk.injEq] at h
    obtain ⟨rfl, rfl⟩ := h
    refine ⟨rfl, fun w vs hvs => ?_⟩
    rw [args_ii hvs]
    exact (within_c n m w m.toNat (by omega) (by omega) (by omega)).mono fun e w' ⟨he, hb⟩ => ⟨hb ▸ Below.refl _ _, _, he, rfl⟩
  · cases h
theorem mul_fok : FOk Try.prog 22 mulF := by
  intro xs p r h hp
  unfold mulF at h
  split at h
  · rename_i x y
    simp only [Option.some.injEq, Prod.mk.injEq] at h
    obtain ⟨rfl, rfl⟩ := h
    refine ⟨rfl, fun w vs hvs => ?_⟩
    rw [args_ii hvs]
    obtain ⟨e1, w1⟩ := isW_word' hp.1
    obtain ⟨e2, w2⟩ := isW_word' hp.2
    exact (mul_c x y w _ _ e1 e2 w1 w2).mono fun e w' ⟨he, hb⟩ => ⟨hb, _, he, is_wd w' _⟩
  · cases h
theorem times_fok : FOk Try.prog 24 timesF := by
  intro xs p r h hp
  unfold timesF at h
  split at h
  · rename_i x1 y1 x2 y2
    simp only [Option.some.injEq, Prod.mk.injEq] at h
    obtain ⟨rfl, rfl⟩ := h
    refine ⟨rfl, fun w vs hvs => ?_⟩
    rw [args_ww hvs]
    by_cases hf : wN x1 y1 * wN x2 y2 < 340282366920938463463374607431768211456
    · rw [show mulN (wN x1 y1) (wN x2 y2) = wN x1 y1 * wN x2 y2 from if_pos hf, show mulE (wN x1 y1) (wN x2 y2) = 0 from if_pos hf]
      exact (times_ok _ _ _ _ w _ _ (isW_wN hp.1) (isW_wN hp.2) (by unfold Fits; exact hf)).mono fun e w' ⟨he, hb⟩ => ⟨hb, _, he, [_, _], rfl, is1_wd w' _, rfl, trivial⟩
    · rw [show mulN (wN x1 y1) (wN x2 y2) = 0 from if_neg hf, show mulE (wN x1 y1) (wN x2 y2) = 2 from if_neg hf, wd0]
      exact (times_large _ _ _ _ w _ _ (isW_wN hp.1) (isW_wN hp.2) (by unfold Fits; exact hf)).mono fun e w' ⟨he, hb⟩ => ⟨hb, _, he, [_, _], rfl, ⟨[_, _], rfl, rfl, rfl, trivial⟩, rfl, trivial⟩
  · cases h
theorem div_fok : FOk Try.prog 42 divF := by
  intro xs p r h hp
  unfold divF at h
  split at h
  · rename_i x1 y1 x2 y2
    simp only [Option.some.injEq, Prod.mk.injEq] at h
    obtain ⟨rfl, rfl⟩ := h
    refine ⟨rfl, fun w vs hvs => ?_⟩
    rw [args_ww hvs]
    have hw := isW_wN hp.2
    by_cases hf : wN x2 y2 = 0
    · rw [hf] at hw ⊢
      rw [show divE 0 = 6 from rfl, show ∀ x, divQ x 0 = 0 from fun _ => rfl, show ∀ x, divR x 0 = 0 from fun _ => rfl, wd0]
      exact (div_none x1 y1 x2 y2 w hw).mono fun e w' ⟨he, hb⟩ => ⟨hb, _, he, [_, _, _], rfl, ⟨[_, _], rfl, rfl, rfl, trivial⟩, ⟨[_, _], rfl, rfl, rfl, trivial⟩, rfl, trivial⟩
    · rw [show divE (wN x2 y2) = 0 from if_neg hf, divQ_pos hf, divR_pos hf]
      exact (div_ok _ _ _ _ w _ _ (isW_wN hp.1) hw (by omega)).mono fun e w' ⟨he, hb⟩ => ⟨hb, _, he, [_, _, _], rfl, is1_wd w' _, is1_wd w' _, rfl, trivial⟩
  · cases h
theorem shl_fok : FOk Try.prog 25 shlF := by
  intro xs p r h hp
  unfold shlF at h
  split at h
  · rename_i x1 y1 n
    simp only [Option.some.injEq, Prod.mk.injEq] at h
    obtain ⟨rfl, rfl⟩ := h
    refine ⟨rfl, fun w vs hvs => ?_⟩
    rw [args_wi hvs]
    by_cases hn : 0 ≤ n ∧ n ≤ 127
    · by_cases hf : wN x1 y1 * 2 ^ n.toNat < 340282366920938463463374607431768211456
      · rw [show shlN (wN x1 y1) n = wN x1 y1 * 2 ^ n.toNat from if_pos ⟨hn.1, hn.2, hf⟩, show shlE (wN x1 y1) n = 0 from (if_pos hn).trans (if_pos hf)]
        exact (shl_e _ _ n n.toNat w _ _ (isW_wN hp) (by omega) (by omega) rfl (by unfold Fits; exact hf)).mono fun e w' ⟨he, hb⟩ => ⟨hb, _, he, [_, _], rfl, is1_wd w' _, rfl, trivial⟩
      · rw [show shlN (wN x1 y1) n = 0 from if_neg (fun h => hf h.2.2), show shlE (wN x1 y1) n = 2 from (if_pos hn).trans (if_neg hf), wd0]
        obtain ⟨m, rfl⟩ := Int.eq_ofNat_of_zero_le hn.1
        exact (shl_large _ _ m w _ (isW_wN hp) (by omega) (by unfold Fits; exact hf)).mono fun e w' ⟨he, hb⟩ => ⟨hb, _, he, [_, _], rfl, ⟨[_, _], rfl, rfl, rfl, trivial⟩, rfl, trivial⟩
    · rw [show shlN (wN x1 y1) n = 0 from if_neg (fun h => hn ⟨h.1, h.2.1⟩), show shlE (wN x1 y1) n = 1 from if_neg hn, wd0]
      exact (shl_arg x1 y1 n w (by omega)).mono fun e w' ⟨he, hb⟩ => ⟨hb, _, he, [_, _], rfl, ⟨[_, _], rfl, rfl, rfl, trivial⟩, rfl, trivial⟩
  · cases h
theorem shr_fok : FOk Try.prog 55 shrF := by
  intro xs p r h hp
  unfold shrF at h
  split at h
  · rename_i x1 y1 n
    simp only [Option.some.injEq, Prod.mk.injEq] at h
    obtain ⟨rfl, rfl⟩ := h
    refine ⟨rfl, fun w vs hvs => ?_⟩
    rw [args_wi hvs]
    by_cases hn : 0 ≤ n ∧ n ≤ 127
    · rw [show shrN (wN x1 y1) n = wN x1 y1 / 2 ^ n.toNat from if_pos hn, show shrE n = 0 from if_pos hn]
      exact (shr_e _ _ n n.toNat w _ _ (isW_wN hp) (by omega) (by omega) rfl).mono fun e w' ⟨he, hb⟩ => ⟨hb, _, he, [_, _], rfl, is1_wd w' _, rfl, trivial⟩
    · rw [show shrN (wN x1 y1) n = 0 from if_neg hn, show shrE n = 1 from if_neg hn, wd0]
      exact (shr_arg x1 y1 n w (by omega)).mono fun e w' ⟨he, hb⟩ => ⟨hb, _, he, [_, _], rfl, ⟨[_, _], rfl, rfl, rfl, trivial⟩, rfl, trivial⟩
  · cases h
def ga : List (Nat × (List SV → Option (Prop × SV))) := [
  (28, addF),
  (53, subF),
  (21, cmpF),
  (34, lenF),
  (25, shlF),
  (55, shrF),
  (22, mulF),
  (24, timesF),
  (42, divF),
  (20, numF),
  (23, withinF),
  (1000000, fun _ => none)]
theorem ga_all : AllFOk Try.prog ga := ⟨
  add_fok,
  sub_fok,
  cmp_fok,
  len_fok,
  shl_fok,
  shr_fok,
  mul_fok,
  times_fok,
  div_fok,
  num_fok,
  within_fok,
  (fun _ _ _ h => by cases h), trivial⟩
theorem ga_ok : GamOk Try.prog (gamOf ga) := gam_ok ga_all
end Go.Proofs.Ytjmkmcjpppdglaa
