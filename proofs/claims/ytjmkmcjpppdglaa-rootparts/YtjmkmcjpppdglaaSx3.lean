/- The symbolic walk is sound: the second part: every operation does what is said of it. -/
import Derived.Test.YtjmkmcjpppdglaaSx2
namespace Go.Proofs.Ytjmkmcjpppdglaa.Sx
open Go.RowKit

/-- v is what is said of it, in the world w ('rw r': a slice that holds r). -/
def Is0 (w : World) : SV → Value → Prop
  | .rw r, v => RdRow w v r.vals
  | .nil, v => v = .slice none 0 0
  | .int k n, v => v = .int k n
  | .bool b, v => v = .bool b
  | .str s, v => v = .string ⟨s.toArray⟩
  | _, _ => False
def AllIs0 (w : World) : List SV → List Value → Prop
  | [], [] => True
  | x :: xs, v :: vs => Is0 w x v ∧ AllIs0 w xs vs
  | _, _ => False
def Is1 (w : World) : SV → Value → Prop
  | .agg cs, v => ∃ vs : List Value, v = .agg vs.toArray ∧ AllIs0 w cs vs
  | x, v => Is0 w x v
def AllIs1 (w : World) : List SV → List Value → Prop
  | [], [] => True
  | x :: xs, v :: vs => Is1 w x v ∧ AllIs1 w xs vs
  | _, _ => False
def Is (w : World) : SV → Value → Prop
  | .tup xs, v => ∃ vs : List Value, v = .tuple vs.toArray ∧ AllIs1 w xs vs
  | x, v => Is1 w x v

/-- No label in it, and nothing unknown. -/
def SV.flat0 : SV → Bool
  | .int .. | .bool _ | .str _ | .nil => true
  | _ => false
def SV.flat1 : SV → Bool
  | .agg cs => cs.all SV.flat0
  | v => v.flat0
def SV.flat : SV → Bool
  | .tup vs => vs.all SV.flat1
  | v => v.flat1

/-- What is said of the functions that are called holds. -/
def GamOk (P : Program) (Γ : Gam) : Prop :=
  ∀ f xs p r, Γ f xs = some (p, r) → p → r.flat = true ∧ ∀ (w : World) (vs : List Value), AllIs1 w xs vs →
    Calls P f vs.toArray w fun e w' => Below w.heap.size w w' ∧ ∃ v, e = .returned v ∧ Is w' r v

theorem flat0_den {x : SV} (h : x.flat0 = true) {w : World} {v : Value} (hv : Is0 w x v) (β : Nat → Nat) (σ : Nat → Sl) : v = den0 β σ x ∧ x.lab0 = [] ∧ x.one = true := by
  cases x <;> simp [SV.flat0] at h <;> simp [Is0] at hv <;> subst hv <;> simp [den0, SV.lab0, SV.one]
theorem flat0_all : ∀ {xs : List SV} {vs : List Value} {w : World}, xs.all SV.flat0 = true → AllIs0 w xs vs → ∀ (β : Nat → Nat) (σ : Nat → Sl), vs = xs.map (den0 β σ) ∧ xs.flatMap SV.lab0 = []
  | [], [], _, _, _, _, _ => by simp
  | [], _ :: _, _, _, h, _, _ => h.elim
  | _ :: _, [], _, _, h, _, _ => h.elim
  | x :: xs, v :: vs, w, hf, h, β, σ => by
    simp only [List.all_cons, Bool.and_eq_true] at hf
    obtain ⟨e1, e2, _⟩ := flat0_den hf.1 h.1 β σ
    obtain ⟨i1, i2⟩ := flat0_all hf.2 h.2 β σ
    simp [← e1, ← i1, e2, i2]
theorem flat1_den {x : SV} (h : x.flat1 = true) {w : World} {v : Value} (hv : Is1 w x v) (β : Nat → Nat) (σ : Nat → Sl) : v = den1 β σ x ∧ x.lab1 = [] := by
  cases x
  case agg cs =>
    obtain ⟨vs, rfl, hvs⟩ := hv
    obtain ⟨e1, e2⟩ := flat0_all h hvs β σ
    exact ⟨by simp [den1, ← e1], by simpa [SV.lab1] using e2⟩
  all_goals
    simp only [SV.flat1] at h
    simp only [Is1] at hv
    obtain ⟨e1, e2, _⟩ := flat0_den h hv β σ
    exact ⟨by simp only [den1]; exact e1, by simp only [SV.lab1]; exact e2⟩
theorem flat1_all : ∀ {xs : List SV} {vs : List Value} {w : World}, xs.all SV.flat1 = true → AllIs1 w xs vs → ∀ (β : Nat → Nat) (σ : Nat → Sl), vs = xs.map (den1 β σ) ∧ xs.flatMap SV.lab1 = []
  | [], [], _, _, _, _, _ => by simp
  | [], _ :: _, _, _, h, _, _ => h.elim
  | _ :: _, [], _, _, h, _, _ => h.elim
  | x :: xs, v :: vs, w, hf, h, β, σ => by
    simp only [List.all_cons, Bool.and_eq_true] at hf
    obtain ⟨e1, e2⟩ := flat1_den hf.1 h.1 β σ
    obtain ⟨i1, i2⟩ := flat1_all hf.2 h.2 β σ
    simp [← e1, ← i1, e2, i2]
theorem flat_den {x : SV} (h : x.flat = true) {w : World} {v : Value} (hv : Is w x v) (β : Nat → Nat) (σ : Nat → Sl) : v = den β σ x ∧ x.labs = [] := by
  cases x
  case tup vs =>
    obtain ⟨us, rfl, hus⟩ := hv
    obtain ⟨e1, e2⟩ := flat1_all h hus β σ
    exact ⟨by simp [den, ← e1], by simpa [SV.labs] using e2⟩
  all_goals
    simp only [SV.flat] at h
    simp only [Is] at hv
    obtain ⟨e1, e2⟩ := flat1_den h hv β σ
    exact ⟨by simp only [den]; exact e1, by simp only [SV.labs]; exact e2⟩

def SV.notTup : SV → Bool
  | .tup _ => false
  | _ => true

section
variable {P : Program} {n : Nat} {W : World} {s : St} {a : Act} {w : World} {β : Nat → Nat} {σ : Nat → Sl} {o : Oper} {K : Act → World → Prop} {Q : Exit → Act → World → Prop}

theorem wp_of_value {u : Value} (h : (execOp a.eval o).run P w = .ok (.value u) w) (hK : K (a.put o.dst u) w) : o.wp P a w K Q := by
  unfold Oper.wp; rw [h]; exact hK

/-- An operation that yields a value and leaves the world alone. -/
theorem val_sound (hs : SimW n W s a w β σ) (hd : ∀ d, o.dst = some d → d < n) {v : SV} {u : Value} (hr : (execOp a.eval o).run P w = .ok (.value u) w) (hv : v = .unk ∨ u = den β σ v)
    (hl : ∀ d ∈ v.labs, (s.mem d).isFresh = false) (hK : ∀ a' w', Sim n W (s.put o.dst v) a' w' → K a' w') : o.wp P a w K Q :=
  wp_of_value hr (hK _ _ ⟨β, σ, hs.put o.dst hd hv hl⟩)

theorem den_agg (cs : List SV) : den β σ (.agg cs) = .agg (cs.map (den0 β σ)).toArray := rfl
theorem cells_den {v : SV} (h : v.cells.all SV.one = true) : (den β σ v).cells = (v.cells.map (den0 β σ)).toArray := by
  cases v <;> simp [SV.cells, SV.one] at h <;> rfl

/-- What a pure operation comes to. -/
def Yld (P : Program) (s : St) (a : Act) (w : World) (β : Nat → Nat) (σ : Nat → Sl) (o : Oper) (v : SV) : Prop :=
  ∃ u, (execOp a.eval o).run P w = .ok (.value u) w ∧ (v = .unk ∨ u = den β σ v) ∧ ∀ d ∈ v.labs, (s.mem d).isFresh = false

theorem run_binI {ρ : Operand → Value} (op : BinOp) (T T' : TypeId) (x y : Operand) (k : IntKind) (m m' : Int) (ex : ρ x = .int k m) (ey : ρ y = .int k m') {p : Prop} {v : SV} (hb : binI op k m m' = some (p, v)) (hp : p) (ho : o.op = .binOp op T x y T') :
    (execOp ρ o).run P w = .ok (.value (den0 β σ v)) w ∧ v.one = true ∧ v.lab0 = [] := by
  cases op <;> simp only [binI] at hb <;> (try (cases hb; done)) <;> simp only [Option.some.injEq, Prod.mk.injEq] at hb <;> obtain ⟨rfl, rfl⟩ := hb <;>
    refine ⟨?_, rfl, rfl⟩ <;> simp [execOp, ho, ex, ey, go_sem, Op.intArith, Op.intDiv, den0, hp]
theorem run_shl {ρ : Operand → Value} (T T' : TypeId) (x y : Operand) (k k' : IntKind) (m m' : Int) (ex : ρ x = .int k m) (ey : ρ y = .int k' m') (hp : 0 ≤ m') (ho : o.op = .binOp .shl T x y T') :
    (execOp ρ o).run P w = .ok (.value (.int k (k.wrap (m * 2 ^ (min m'.toNat k.bits))))) w := by
  have : ¬ m' < 0 := by omega
  simp only [execOp, ho, ex, ey, eqGuard_shl, binOp_shl, Op.shift, if_neg this]
  simp
theorem run_shr {ρ : Operand → Value} (T T' : TypeId) (x y : Operand) (k k' : IntKind) (m m' : Int) (ex : ρ x = .int k m) (ey : ρ y = .int k' m') (hp : 0 ≤ m') (ho : o.op = .binOp .shr T x y T') :
    (execOp ρ o).run P w = .ok (.value (.int k (m.fdiv (2 ^ (min m'.toNat k.bits))))) w := by
  have : ¬ m' < 0 := by omega
  simp only [execOp, ho, ex, ey, eqGuard_shr, binOp_shr, Op.shift, if_neg this]
  simp
theorem run_eqB {ρ : Operand → Value} (T T' : TypeId) (x y : Operand) (m m' : Bool) (hT : P.underlying T = some .bool) (ex : ρ x = .bool m) (ey : ρ y = .bool m') (ho : o.op = .binOp .eql T x y T') :
    (execOp ρ o).run P w = .ok (.value (.bool (m == m'))) w := by
  simp only [execOp, ho, ex, ey, eqGuard_at_bool, Sem.run_bind, Sem.run_pure, Result.andThen_ok, run_eql_bool w T m m' hT]
theorem run_neB {ρ : Operand → Value} (T T' : TypeId) (x y : Operand) (m m' : Bool) (hT : P.underlying T = some .bool) (ex : ρ x = .bool m) (ey : ρ y = .bool m') (ho : o.op = .binOp .neq T x y T') :
    (execOp ρ o).run P w = .ok (.value (.bool (!(m == m')))) w := by
  simp only [execOp, ho, ex, ey, eqGuard_at_bool, Sem.run_bind, Sem.run_pure, Result.andThen_ok, run_neq_bool w T m m' hT]

theorem mem_labs_one {v : SV} (h : v.one = true) (h' : v.lab0 = []) : ∀ d ∈ v.labs, (s.mem d).isFresh = false := by
  rw [labs_of_one h, h']; simp

/-- The plain operations. -/
theorem bin_yld (hs : SimW n W s a w β σ) {op : BinOp} {T T' : TypeId} {x y : Operand} {x' y' : SO} (hx : cO x = some x') (hy : cO y = some y') {p : Prop} {v : SV} (hb : binV op (x'.ev s) (y'.ev s) = some (p, v)) (hp : p) (ho : o.op = .binOp op T x y T') : Yld P s a w β σ o v := by
  have ex := fun h => eval_of hs hx h
  have ey := fun h => eval_of hs hy h
  generalize x'.ev s = vx at *
  generalize y'.ev s = vy at *
  unfold binV at hb
  split at hb
  · simp only [Option.some.injEq, Prod.mk.injEq] at hb
    obtain ⟨rfl, rfl⟩ := hb
    exact ⟨_, run_shl T T' x y _ _ _ _ (ex (by simp)) (ey (by simp)) hp ho, .inr rfl, mem_labs_one rfl rfl⟩
  · simp only [Option.some.injEq, Prod.mk.injEq] at hb
    obtain ⟨rfl, rfl⟩ := hb
    exact ⟨_, run_shr T T' x y _ _ _ _ (ex (by simp)) (ey (by simp)) hp ho, .inr rfl, mem_labs_one rfl rfl⟩
  · split at hb
    · rename_i hk; subst hk
      obtain ⟨h1, h2, h3⟩ := run_binI (P := P) (w := w) (β := β) (σ := σ) (o := o) op T T' x y _ _ _ (ex (by simp)) (ey (by simp)) hb hp ho
      exact ⟨_, h1, .inr (den_of_one h2 β σ).symm, mem_labs_one h2 h3⟩
    · cases hb
  · cases hb
theorem eqb_yld (hs : SimW n W s a w β σ) {neg : Bool} {T T' : TypeId} {x y : Operand} {x' y' : SO} (hx : cO x = some x') (hy : cO y = some y') (hT : P.underlying T = some .bool) {m m' : Bool} (hm : x'.ev s = .bool m) (hm' : y'.ev s = .bool m')
    (ho : o.op = .binOp (if neg then .neq else .eql) T x y T') : Yld P s a w β σ o (.bool (if neg then !(m == m') else m == m')) := by
  have ex := eval_of hs hx (by simp [hm])
  have ey := eval_of hs hy (by simp [hm'])
  rw [hm] at ex; rw [hm'] at ey
  cases neg
  · exact ⟨_, run_eqB T T' x y _ _ hT ex ey ho, .inr rfl, mem_labs_one rfl rfl⟩
  · exact ⟨_, run_neB T T' x y _ _ hT ex ey ho, .inr rfl, mem_labs_one rfl rfl⟩

/-! Equality of structs. -/
theorem run_part_one (t : TypeId) (d : TypeDesc) (cs : Array Value) (off : Nat) (v : Value) (hu : P.underlying t = some d) (hd : isAggD d = false) (hv : cs[off]? = some v) : (part t cs off).run P w = .ok v w := by
  have hagg : (isAgg t).run P w = .ok false w := by
    unfold isAgg
    rw [Sem.run_bind, run_underlying hu w]
    cases d <;> simp_all [isAggD]
  simp [part, hagg, hv]
theorem run_equalIn_atom {f : Field} {o t : Nat} (hf : fieldTag P f = some (o, t)) (d : Nat) {x y : SV} {b : Bool} (hb : cellEq t x y = some b) :
    f.name ≠ "_" ∧ o = f.offset ∧ ∃ dd, P.underlying f.type = some dd ∧ isAggD dd = false ∧ (Op.equalIn (d + 1) f.type (den0 β σ x) (den0 β σ y)).run P w = .ok b w := by
  unfold fieldTag at hf
  by_cases hn : f.name = "_"
  · simp [hn] at hf
  · rw [if_neg hn] at hf
    cases hu : P.underlying f.type with
    | none => simp [hu] at hf
    | some dd =>
      rw [hu] at hf
      cases dd <;> simp at hf
      case int k0 =>
        obtain ⟨rfl, rfl⟩ := hf
        refine ⟨hn, rfl, _, rfl, rfl, ?_⟩
        cases x <;> cases y <;> simp [cellEq] at hb
        obtain ⟨rfl, rfl⟩ := hb
        exact run_equalIn_int w d _ _ _ _ _ hu
      case bool =>
        obtain ⟨rfl, rfl⟩ := hf
        refine ⟨hn, rfl, _, rfl, rfl, ?_⟩
        cases x <;> cases y <;> simp [cellEq] at hb
        subst hb
        exact run_equalIn_bool w d _ _ _ hu
      case string =>
        obtain ⟨rfl, rfl⟩ := hf
        refine ⟨hn, rfl, _, rfl, rfl, ?_⟩
        cases x <;> cases y <;> simp [cellEq] at hb
        rename_i s1 s2
        subst hb
        have := run_equalIn_string (P := P) w d f.type ⟨s1.toArray⟩ ⟨s2.toArray⟩ hu
        simpa [den0, ByteArray.toList_eq] using this
theorem eqFields_run (d : Nat) : ∀ (fs : List Field) (os : List (Nat × Nat)) (xs ys : List SV) (b : Bool), fs.mapM (fieldTag P) = some os → eqCells xs ys os = some b →
    (Op.eqFields (d + 1) (xs.map (den0 β σ)).toArray (ys.map (den0 β σ)).toArray fs).run P w = .ok b w
  | [], os, xs, ys, b, ho, h => by simp at ho; subst ho; simp [eqCells] at h; subst h; simp [Op.eqFields]
  | f :: fs, os, xs, ys, b, ho, h => by
    simp only [List.mapM_cons, Option.bind_eq_bind, Option.pure_def, Option.bind_eq_some_iff] at ho
    obtain ⟨⟨o, t⟩, hft, os', hos, he⟩ := ho
    simp only [Option.some.injEq] at he
    subst he
    simp only [eqCells] at h
    split at h
    · rename_i x y hx hy
      split at h
      · rename_i b1 b2 hb1 hb2
        simp only [Option.some.injEq] at h; subst h
        have ih := eqFields_run d fs os' xs ys b2 hos hb2
        obtain ⟨hn, rfl, dd, hu, hd, he⟩ := run_equalIn_atom (P := P) (w := w) (β := β) (σ := σ) hft d hb1
        have gx : (xs.map (den0 β σ)).toArray[f.offset]? = some (den0 β σ x) := by simp [hx]
        have gy : (ys.map (den0 β σ)).toArray[f.offset]? = some (den0 β σ y) := by simp [hy]
        simp only [Op.eqFields, ne_eq, hn, not_false_eq_true, if_true, Sem.run_bind, run_part_one f.type dd _ _ _ hu hd gx, run_part_one f.type dd _ _ _ hu hd gy, Result.andThen_ok, he, Sem.run_ite]
        cases b1
        · simp
        · simpa using ih
      · cases h
    · cases h
end
end Go.Proofs.Ytjmkmcjpppdglaa.Sx
