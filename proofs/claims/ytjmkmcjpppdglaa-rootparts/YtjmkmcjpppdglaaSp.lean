/- What the functions of packages wide and prod, and the statements' small helpers, hand back: as functions on data. -/
import Derived.Test.YtjmkmcjpppdglaaEv
import Derived.Test.YtjmkmcjpppdglaaPlain
namespace Go.Proofs.Ytjmkmcjpppdglaa
open Go.RowKit Sx

def wN (x y : Int) : Nat := x.toNat * 18446744073709551616 + y.toNat
def OkW (x y : Int) : Prop := 0 ≤ x ∧ x < 18446744073709551616 ∧ 0 ≤ y ∧ y < 18446744073709551616
theorem isW_wN {x y : Int} (h : OkW x y) : IsW (wN x y) x y := by
  obtain ⟨h1, h2, h3, h4⟩ := h
  obtain ⟨n, rfl⟩ := Int.eq_ofNat_of_zero_le h1
  obtain ⟨m, rfl⟩ := Int.eq_ofNat_of_zero_le h3
  exact isW_mk n m (by omega) (by omega)
theorem wN_hl (a : Nat) : wN (hiN a) (loN a) = a := by simp only [wN, Int.toNat_natCast]; exact words a
theorem OkW_hl (a : Nat) : OkW (hiN a) (loN a) ↔ Fits a := by
  have h1 := loN_lt a
  have h2 := words a
  unfold OkW Fits
  constructor <;> intro h <;> omega
theorem eq_hl (a b : Nat) : (((hiN a : Int) == (hiN b : Int)) && ((loN a : Int) == (loN b : Int))) = decide (a = b) := by
  rw [Bool.eq_iff_iff]
  simp only [Bool.and_eq_true, beq_iff_eq, decide_eq_true_eq, Int.natCast_inj]
  exact ⟨fun h => eq_of_words h.1 h.2, fun h => by subst h; exact ⟨rfl, rfl⟩⟩
theorem eq_h0 (a : Nat) : (((hiN a : Int) == 0) && ((loN a : Int) == 0)) = decide (a = 0) := by
  have := eq_hl a 0
  rw [hiN_of_word (a := 0) (by unfold Word; omega), loN_of_word (a := 0) (by unfold Word; omega)] at this
  exact this

theorem wN_0 (n : Nat) : wN 0 (n : Int) = n := by simp [wN]
theorem OkW_0 (n : Nat) : OkW 0 (n : Int) ↔ Word n := by
  unfold OkW Word
  constructor <;> intro h <;> omega
/-- The number a, as a value of type api.Wide. -/
def wd (a : Nat) : SV := .agg [.int .u64 (hiN a), .int .u64 (loN a)]

/-- The functions of which something is said, by their numbers. -/
def gamOf (l : List (Nat × (List SV → Option (Prop × SV)))) : Gam := fun f xs => match lookN l f with
  | some g => g xs
  | none => none
def FOk (P : Program) (f : Nat) (g : List SV → Option (Prop × SV)) : Prop :=
  ∀ xs p r, g xs = some (p, r) → p → r.flat = true ∧ ∀ (w : World) (vs : List Value), AllIs1 w xs vs → Calls P f vs.toArray w fun e w' => Below w.heap.size w w' ∧ ∃ v, e = .returned v ∧ Is w' r v
def AllFOk (P : Program) : List (Nat × (List SV → Option (Prop × SV))) → Prop
  | [] => True
  | (f, g) :: l => FOk P f g ∧ AllFOk P l
theorem gam_ok {P : Program} : ∀ {l : List (Nat × (List SV → Option (Prop × SV)))}, AllFOk P l → GamOk P (gamOf l)
  | [], _, f, xs, p, r, h => by simp [gamOf, lookN] at h
  | (f0, g0) :: l, hl, f, xs, p, r, h => by
    by_cases hf : f = f0
    · subst hf
      simp only [gamOf, lookN, if_true] at h
      exact hl.1 xs p r h
    · simp only [gamOf, lookN, if_neg hf] at h
      exact gam_ok hl.2 f xs p r h
/-- A function of which the walk has shown what it hands back. -/
theorem fok_of {P : Program} {Γ : Gam} (hΓ : GamOk P Γ) (hm : P.follows .mixedOrders = true) {f : Nat} {F : SF} (hF : cFunc P f = some F) {g : List SV → Option (Prop × SV)}
    (h : ∀ xs p r, g xs = some (p, r) → p → r.flat = true ∧ xs.all SV.flat1 = true ∧ xs.length ≤ F.n ∧ vcFun Γ F xs fun v => v = r) : FOk P f g := by
  intro xs p r hg hp
  obtain ⟨h1, h2, h3, h4⟩ := h xs p r hg hp
  refine ⟨h1, fun w vs hvs => (fun_sound hΓ hm hF h4 h2 h3 w vs hvs).mono fun e w' ⟨hb, r', v, hr, he, hi⟩ => ⟨hb, v, he, ?_⟩⟩
  subst hr
  exact hi

/-! ### The results -/
def addN (a b : Nat) : Nat := if a + b < 340282366920938463463374607431768211456 then a + b else 0
def addE (a b : Nat) : Int := if a + b < 340282366920938463463374607431768211456 then 0 else 2
def subE (a b : Nat) : Int := if b ≤ a then 0 else 7
def mulN (a b : Nat) : Nat := if a * b < 340282366920938463463374607431768211456 then a * b else 0
def mulE (a b : Nat) : Int := if a * b < 340282366920938463463374607431768211456 then 0 else 2
def divE (b : Nat) : Int := if b = 0 then 6 else 0
def divQ (a b : Nat) : Nat := if b = 0 then 0 else a / b
def divR (a b : Nat) : Nat := if b = 0 then 0 else a % b
theorem divQ_pos {a b : Nat} (h : b ≠ 0) : divQ a b = a / b := if_neg h
theorem divR_pos {a b : Nat} (h : b ≠ 0) : divR a b = a % b := if_neg h
def shlN (a : Nat) (n : Int) : Nat := if 0 ≤ n ∧ n ≤ 127 ∧ a * 2 ^ n.toNat < 340282366920938463463374607431768211456 then a * 2 ^ n.toNat else 0
def shlE (a : Nat) (n : Int) : Int := if 0 ≤ n ∧ n ≤ 127 then (if a * 2 ^ n.toNat < 340282366920938463463374607431768211456 then 0 else 2) else 1
def shrN (a : Nat) (n : Int) : Nat := if 0 ≤ n ∧ n ≤ 127 then a / 2 ^ n.toNat else 0
def shrE (n : Int) : Int := if 0 ≤ n ∧ n ≤ 127 then 0 else 1

def addF : List SV → Option (Prop × SV)
  | [.agg [.int .u64 x1, .int .u64 y1], .agg [.int .u64 x2, .int .u64 y2]] => some (OkW x1 y1 ∧ OkW x2 y2, .tup [wd (addN (wN x1 y1) (wN x2 y2)), .int .i64 (addE (wN x1 y1) (wN x2 y2))])
  | _ => none
def subF : List SV → Option (Prop × SV)
  | [.agg [.int .u64 x1, .int .u64 y1], .agg [.int .u64 x2, .int .u64 y2]] => some (OkW x1 y1 ∧ OkW x2 y2, .tup [wd (wN x1 y1 - wN x2 y2), .int .i64 (subE (wN x1 y1) (wN x2 y2))])
  | _ => none
def cmpF : List SV → Option (Prop × SV)
  | [.agg [.int .u64 x1, .int .u64 y1], .agg [.int .u64 x2, .int .u64 y2]] => some (OkW x1 y1 ∧ OkW x2 y2, .int .i64 (cmpN (wN x1 y1) (wN x2 y2)))
  | _ => none
def lenF : List SV → Option (Prop × SV)
  | [.agg [.int .u64 x1, .int .u64 y1]] => some (OkW x1 y1, .int .i64 (bitLen (wN x1 y1)))
  | _ => none
def shlF : List SV → Option (Prop × SV)
  | [.agg [.int .u64 x1, .int .u64 y1], .int .i64 n] => some (OkW x1 y1, .tup [wd (shlN (wN x1 y1) n), .int .i64 (shlE (wN x1 y1) n)])
  | _ => none
def shrF : List SV → Option (Prop × SV)
  | [.agg [.int .u64 x1, .int .u64 y1], .int .i64 n] => some (OkW x1 y1, .tup [wd (shrN (wN x1 y1) n), .int .i64 (shrE n)])
  | _ => none
def mulF : List SV → Option (Prop × SV)
  | [.int .u64 x, .int .u64 y] => some (OkW 0 x ∧ OkW 0 y, wd (x.toNat * y.toNat))
  | _ => none
def timesF : List SV → Option (Prop × SV)
  | [.agg [.int .u64 x1, .int .u64 y1], .agg [.int .u64 x2, .int .u64 y2]] => some (OkW x1 y1 ∧ OkW x2 y2, .tup [wd (mulN (wN x1 y1) (wN x2 y2)), .int .i64 (mulE (wN x1 y1) (wN x2 y2))])
  | _ => none
def divF : List SV → Option (Prop × SV)
  | [.agg [.int .u64 x1, .int .u64 y1], .agg [.int .u64 x2, .int .u64 y2]] => some (OkW x1 y1 ∧ OkW x2 y2, .tup [wd (divQ (wN x1 y1) (wN x2 y2)), wd (divR (wN x1 y1) (wN x2 y2)), .int .i64 (divE (wN x2 y2))])
  | _ => none
end Go.Proofs.Ytjmkmcjpppdglaa
