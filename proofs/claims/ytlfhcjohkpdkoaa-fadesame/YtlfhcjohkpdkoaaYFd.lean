/- Means that fade: arithmetic, of no program. -/
import Derived.Test.YtlfhcjohkpdkoaaYS2
namespace Go.Proofs.Ytlfhcjohkpdkoaa
open Go.ChangeShapes Go.WideShapes Go.ChangeAt Go.RowKit Go.Joins Y
set_option linter.unusedSimpArgs false
set_option linter.unusedVariables false
set_option maxRecDepth 100000
set_option maxHeartbeats 40000000
theorem pow8 {s : Int} (h0 : 0 ≤ s) (h : s ≤ 8) : ∃ p : Int, (2 : Int) ^ s.toNat = p ∧ (p = 1 ∨ p = 2 ∨ p = 4 ∨ p = 8 ∨ p = 16 ∨ p = 32 ∨ p = 64 ∨ p = 128 ∨ p = 256) := by
  have : s = 0 ∨ s = 1 ∨ s = 2 ∨ s = 3 ∨ s = 4 ∨ s = 5 ∨ s = 6 ∨ s = 7 ∨ s = 8 := by omega
  rcases this with rfl | rfl | rfl | rfl | rfl | rfl | rfl | rfl | rfl
  all_goals exact ⟨_, rfl, by decide⟩
/-- The mean m, moved towards n. -/
def nextV (m n s : Int) : Int := m + (256 * n - m) / 2 ^ s.toNat
def nextE (m n s : Int) : Int := if (0 ≤ m ∧ m ≤ 4294967296) ∧ (0 ≤ n ∧ n ≤ 16777216) ∧ 0 ≤ s ∧ s ≤ 8 then 0 else 1
def nextR (m n s : Int) : Int := if nextE m n s = 0 then nextV m n s else 0
theorem nextE_0 {m n s : Int} : nextE m n s = 0 ↔ (0 ≤ m ∧ m ≤ 4294967296) ∧ (0 ≤ n ∧ n ≤ 16777216) ∧ 0 ≤ s ∧ s ≤ 8 := by
  unfold nextE; split
  · simp_all
  · simp_all
theorem next_low {m n s a : Int} (h0 : 0 ≤ s) (h : s ≤ 8) (h1 : a ≤ m) (h2 : a ≤ 256 * n) : a ≤ nextV m n s := by
  obtain ⟨p, hp, hc⟩ := pow8 h0 h
  unfold nextV; rw [hp]
  rcases hc with rfl | rfl | rfl | rfl | rfl | rfl | rfl | rfl | rfl <;> omega
theorem next_high {m n s a : Int} (h0 : 0 ≤ s) (h : s ≤ 8) (h1 : m ≤ a) (h2 : 256 * n ≤ a) : nextV m n s ≤ a := by
  obtain ⟨p, hp, hc⟩ := pow8 h0 h
  unfold nextV; rw [hp]
  rcases hc with rfl | rfl | rfl | rfl | rfl | rfl | rfl | rfl | rfl <;> omega
theorem next_mono {a b n s : Int} (h0 : 0 ≤ s) (h : s ≤ 8) (hab : a ≤ b) : nextV a n s ≤ nextV b n s ∧ nextV b n s - nextV a n s ≤ b - a := by
  obtain ⟨p, hp, hc⟩ := pow8 h0 h
  unfold nextV; rw [hp]
  rcases hc with rfl | rfl | rfl | rfl | rfl | rfl | rfl | rfl | rfl <;> omega
theorem next_more {a n n' s : Int} (h0 : 0 ≤ s) (h : s ≤ 8) (hn : n ≤ n') : nextV a n s ≤ nextV a n' s := by
  obtain ⟨p, hp, hc⟩ := pow8 h0 h
  unfold nextV; rw [hp]
  rcases hc with rfl | rfl | rfl | rfl | rfl | rfl | rfl | rfl | rfl <;> omega
theorem next_moved (m n s b : Int) : nextV (m + 256 * b) (n + b) s = nextV m n s + 256 * b := by
  unfold nextV
  rw [show 256 * (n + b) - (m + 256 * b) = 256 * n - m by omega]; omega
theorem next_same (n s : Int) : nextV (256 * n) n s = 256 * n := by
  unfold nextV; rw [Int.sub_self, Int.zero_ediv]; omega
theorem next_0 (m n : Int) : nextV m n 0 = 256 * n := by
  unfold nextV; simp; omega
/-- The mean after all values. -/
def foldV (s m : Int) (l : List Int) : Int := l.foldl (fun m n => nextV m n s) m
def runV (l : List Int) (s : Int) : Int := foldV s (256 * l.getD 0 0) (l.drop 1)
def runE (l : List Int) (s : Int) : Int := if listE l = 0 then (if 0 ≤ s ∧ s ≤ 8 then (if l.length = 0 then 4 else 0) else 1) else listE l
def runR (l : List Int) (s : Int) : Int := if runE l s = 0 then runV l s else 0
theorem fold_snoc (s m : Int) {l : List Int} {i : Nat} (h : i < l.length) : foldV s m (l.take (i + 1)) = nextV (foldV s m (l.take i)) (l.getD i 0) s := by
  rw [take_snoc h]; simp [foldV, List.foldl_append]
theorem fold_low {s a : Int} (h0 : 0 ≤ s) (h : s ≤ 8) : ∀ {l : List Int} {m : Int}, a ≤ m → (∀ x ∈ l, a ≤ 256 * x) → a ≤ foldV s m l
  | [], m, hm, _ => hm
  | x :: l, m, hm, hl => fold_low h0 h (l := l) (m := nextV m x s) (next_low h0 h hm (hl x (List.mem_cons_self ..))) fun y hy => hl y (List.mem_cons_of_mem _ hy)
theorem fold_high {s a : Int} (h0 : 0 ≤ s) (h : s ≤ 8) : ∀ {l : List Int} {m : Int}, m ≤ a → (∀ x ∈ l, 256 * x ≤ a) → foldV s m l ≤ a
  | [], m, hm, _ => hm
  | x :: l, m, hm, hl => fold_high h0 h (l := l) (m := nextV m x s) (next_high h0 h hm (hl x (List.mem_cons_self ..))) fun y hy => hl y (List.mem_cons_of_mem _ hy)
theorem run_low {l : List Int} {s a : Int} (h0 : 0 ≤ s) (h : s ≤ 8) (hl : l.length ≠ 0) (ha : ∀ x ∈ l, a ≤ x) : 256 * a ≤ runV l s :=
  fold_low h0 h (by have := ha _ (getD_mem (l := l) (i := 0) (by omega)); omega) fun x hx => by have := ha x (List.mem_of_mem_drop hx); omega
theorem run_high {l : List Int} {s a : Int} (h0 : 0 ≤ s) (h : s ≤ 8) (hl : l.length ≠ 0) (ha : ∀ x ∈ l, x ≤ a) : runV l s ≤ 256 * a :=
  fold_high h0 h (by have := ha _ (getD_mem (l := l) (i := 0) (by omega)); omega) fun x hx => by have := ha x (List.mem_of_mem_drop hx); omega
theorem runE_0 {l : List Int} {s : Int} : runE l s = 0 ↔ listE l = 0 ∧ (0 ≤ s ∧ s ≤ 8) ∧ l.length ≠ 0 := by
  unfold runE
  by_cases h : listE l = 0
  · rw [if_pos h]
    by_cases h1 : 0 ≤ s ∧ s ≤ 8
    · rw [if_pos h1]
      by_cases h2 : l.length = 0
      · rw [if_pos h2]; simp [h2]
      · rw [if_neg h2]; simp [h, h1, h2]
    · rw [if_neg h1]; simp [h1]
  · rw [if_neg h]; simp [h]
end Go.Proofs.Ytlfhcjohkpdkoaa
