/- The reckoning of what is to be shown, step by step: an equation for each piece of code and each operation. -/
import Derived.Test.YtjmkmcjpppdglaaSx9
namespace Go.Proofs.Ytjmkmcjpppdglaa.Sx
open Go.RowKit
section
variable (Γ : Gam) (s : St)
theorem e_fun (F : SF) (xs : List SV) (R : SV → Prop) : vcFun Γ F xs R = vc Γ F.body (St.of (entFr 0 xs) []) fun e s => match e with
    | .exit _ => False
    | .normal => vcRet R F.res s
    | .ret => vcRet R F.res s := by unfold vcFun; exact rfl
theorem e_skip (K : SE → St → Prop) : vc Γ .skip s K = K .normal s := by rw [vc]
theorem e_reg (id : Nat) (ops : List SOp) (live : List Nat) (K : SE → St → Prop) : vc Γ (.reg id ops live) s K = vcOps Γ ops (1000 * id) s (fun s' => K .normal (keepSt live s')) := by rw [vc]
theorem e_seq (a b : SC) (K : SE → St → Prop) : vc Γ (.seq a b) s K = vc Γ a s fun e s' => match e with
    | .normal => vc Γ b s' K
    | .exit i => K (.exit i) s'
    | .ret => K .ret s' := by rw [vc]; rfl
theorem e_cond (c : SO) (a b : SC) (K : SE → St → Prop) : vc Γ (.cond c a b) s K = match c.ev s with
    | .bool t => if t = true then vc Γ a s K else vc Γ b s K
    | _ => False := by rw [vc]; rfl
theorem e_block (id : Nat) (b : SC) (K : SE → St → Prop) : vc Γ (.block id b) s K = vc Γ b s fun e s' => match e with
    | .exit i => if i = id then K .normal s' else K (.exit i) s'
    | .normal => K .normal s'
    | .ret => K .ret s' := by rw [vc]; rfl
theorem e_exit (id : Nat) (K : SE → St → Prop) : vc Γ (.exit id) s K = K (.exit id) s := by rw [vc]
theorem e_ret (K : SE → St → Prop) : vc Γ .ret s K = K .ret s := by rw [vc]
theorem e_nil (i : Nat) (K : St → Prop) : vcOps Γ [] i s K = K s := by rw [vcOps]
theorem e_op (dst : Option Nat) (k : SK) (rest : List SOp) (i : Nat) (K : St → Prop) : vcOps Γ (⟨dst, none, k⟩ :: rest) i s K = vcOp Γ i dst k s fun s' => vcOps Γ rest (i + 1) s' K := by rw [vcOps]
theorem e_opg (dst : Option Nat) (g : Nat) (want : Bool) (k : SK) (rest : List SOp) (i : Nat) (K : St → Prop) : vcOps Γ (⟨dst, some (g, want), k⟩ :: rest) i s K = match s.fr g with
    | .bool b => if b = want then vcOp Γ i dst k (s.put (some g) (.bool want)) fun s' => vcOps Γ rest (i + 1) s' K
        else vcOps Γ rest (i + 1) ((s.put (some g) (.bool (!want))).put dst (.tup [])) K
    | .tup [] => vcOps Γ rest (i + 1) (s.put dst (.tup [])) K
    | _ => False := by rw [vcOps]; rfl
variable (lab : Nat) (dst : Option Nat) (K : St → Prop)
theorem o_mov (x : SO) : vcOp Γ lab dst (.mov x) s K = K (s.put dst (x.ev s)) := by
  simp [vcOp, eff, SK.pure, SK.opnds, effP, app]
theorem o_pick (c a b : SO) : vcOp Γ lab dst (.pick c a b) s K = match c.ev s with
    | .bool t => if t = true then K (s.put dst (a.ev s)) else K (s.put dst (b.ev s))
    | _ => False := by rw [vcOp]; rfl
/-- A value, if there is one, under its condition. -/
def vK (s : St) (dst : Option Nat) (K : St → Prop) : Option (Prop × SV) → Prop
  | some (p, v) => p ∧ K (s.put dst v)
  | none => False
theorem pure_vK (k : SK) (hk : k.pure = true) (hp : ∀ c a b, k ≠ .pick c a b) : vcOp Γ lab dst k s K = vK s dst K (effP k (k.opnds.map (SO.ev s))) := by
  cases k <;> simp [SK.pure] at hk <;> first | exact absurd rfl (hp _ _ _) | skip
  all_goals
    simp only [vcOp, eff, SK.pure, if_true]
    generalize effP _ _ = r
    cases r <;> simp [vK, app]
theorem o_bin (op : BinOp) (x y : SO) : vcOp Γ lab dst (.bin op x y) s K = vK s dst K (binV op (x.ev s) (y.ev s)) := by
  rw [pure_vK _ _ _ _ _ _ rfl (by simp)]; simp only [SK.opnds, List.map_cons, List.map_nil, effP]
theorem o_eqb (neg : Bool) (x y : SO) : vcOp Γ lab dst (.eqb neg x y) s K = match x.ev s, y.ev s with
    | .bool a, .bool b => K (s.put dst (.bool (if neg then !(a == b) else a == b)))
    | _, _ => False := by
  rw [pure_vK _ _ _ _ _ _ rfl (by simp)]; simp only [SK.opnds, List.map_cons, List.map_nil]
  generalize x.ev s = vx
  generalize y.ev s = vy
  cases vx <;> cases vy <;> simp [effP, vK]
theorem o_eqs (neg : Bool) (offs : List (Nat × Nat)) (x y : SO) : vcOp Γ lab dst (.eqs neg offs x y) s K = match x.ev s, y.ev s with
    | .agg xs, .agg ys => (match eqCells xs ys offs with
      | some b => K (s.put dst (.bool (if neg then !b else b)))
      | none => False)
    | _, _ => False := by
  rw [pure_vK _ _ _ _ _ _ rfl (by simp)]; simp only [SK.opnds, List.map_cons, List.map_nil]
  generalize x.ev s = vx
  generalize y.ev s = vy
  cases vx <;> cases vy <;> simp only [effP, vK]
  generalize eqCells _ _ _ = r
  cases r <;> simp
theorem o_neg (x : SO) : vcOp Γ lab dst (.un .neg x) s K = match x.ev s with
    | .int k a => K (s.put dst (.int k (k.wrap (0 - a))))
    | _ => False := by
  rw [pure_vK _ _ _ _ _ _ rfl (by simp)]; simp only [SK.opnds, List.map_cons, List.map_nil]
  generalize x.ev s = vx
  cases vx <;> simp [effP, vK]
theorem o_not (x : SO) : vcOp Γ lab dst (.un .not x) s K = match x.ev s with
    | .bool b => K (s.put dst (.bool (!b)))
    | _ => False := by
  rw [pure_vK _ _ _ _ _ _ rfl (by simp)]; simp only [SK.opnds, List.map_cons, List.map_nil]
  generalize x.ev s = vx
  cases vx <;> simp [effP, vK]
theorem o_conv (k : IntKind) (x : SO) : vcOp Γ lab dst (.conv k x) s K = match x.ev s with
    | .int _ a => K (s.put dst (.int k (k.wrap a)))
    | _ => False := by
  rw [pure_vK _ _ _ _ _ _ rfl (by simp)]; simp only [SK.opnds, List.map_cons, List.map_nil]
  generalize x.ev s = vx
  cases vx <;> simp [effP, vK]
theorem o_faddr (off : Nat) (x : SO) : vcOp Γ lab dst (.faddr off x) s K = match x.ev s with
    | .ptr d o => K (s.put dst (.ptr d (o + off)))
    | _ => False := by
  rw [pure_vK _ _ _ _ _ _ rfl (by simp)]; simp only [SK.opnds, List.map_cons, List.map_nil]
  generalize x.ev s = vx
  cases vx <;> simp [effP, vK]
theorem o_fld (off : Nat) (n : Option Nat) (x : SO) : vcOp Γ lab dst (.fld off n x) s K = match x.ev s with
    | .agg cs => (match partV cs off n with
      | some v => K (s.put dst v)
      | none => False)
    | _ => False := by
  rw [pure_vK _ _ _ _ _ _ rfl (by simp)]; simp only [SK.opnds, List.map_cons, List.map_nil]
  generalize x.ev s = vx
  cases vx <;> simp only [effP, vK]
  generalize partV _ _ _ = r
  cases r <;> simp
theorem o_ext (x : SO) (i : Nat) : vcOp Γ lab dst (.ext x i) s K = match x.ev s with
    | .tup vs => (match vs[i]? with
      | some (.tup _) => False
      | some v => K (s.put dst v)
      | none => False)
    | _ => False := by
  rw [pure_vK _ _ _ _ _ _ rfl (by simp)]; simp only [SK.opnds, List.map_cons, List.map_nil]
  generalize x.ev s = vx
  cases vx <;> simp only [effP, vK]
  rename_i vs
  generalize vs[i]? = r
  cases r with
  | none => simp
  | some v => cases v <;> simp
theorem o_mx (m : Bool) (x y : SO) : vcOp Γ lab dst (.mx m x y) s K = vK s dst K (effP (.mx m x y) [x.ev s, y.ev s]) := by
  rw [pure_vK _ _ _ _ _ _ rfl (by simp)]; simp only [SK.opnds, List.map_cons, List.map_nil]
theorem b_max (x y : SO) (k : IntKind) (a b : Int) : effP (.mx true x y) [.int k a, .int k b] = some (True, .int k (if b > a then b else a)) := by simp [effP]
theorem b_min (x y : SO) (k : IntKind) (a b : Int) : effP (.mx false x y) [.int k a, .int k b] = some (True, .int k (if b < a then b else a)) := by simp [effP]
theorem o_build (z : List SV) (ps : List (Nat × Nat × SO)) : vcOp Γ lab dst (.build z ps) s K = match fillP z (ps.map fun p => (p.1, p.2.1)) ((ps.map (·.2.2)).map (SO.ev s)) with
    | some cs => K (s.put dst (.agg cs))
    | none => False := by
  rw [pure_vK _ _ _ _ _ _ rfl (by simp)]; simp only [SK.opnds, effP]
  generalize fillP _ _ _ = r
  cases r <;> simp [vK]
theorem o_box (T : Nat) (x : SO) : vcOp Γ lab dst (.box T x) s K = if (x.ev s).cells.all SV.one then (if (s.mem lab).isFresh then K ((s.setm lab (.var T (x.ev s).cells)).put dst (.ptr lab 0)) else False) else False := by
  simp only [vcOp, eff, SK.pure, Bool.false_eq_true, if_false, SK.opnds, List.map_cons, List.map_nil, effM]
  by_cases h : (x.ev s).cells.all SV.one = true
  · by_cases h' : (s.mem lab).isFresh = true <;> simp [h, h', app]
  · simp [h]
theorem o_alloc (T : Nat) (z : List SV) : vcOp Γ lab dst (.alloc T z) s K = if (s.mem lab).isFresh then K ((s.setm lab (.var T z)).put dst (.ptr lab 0)) else False := by
  simp only [vcOp, eff, SK.pure, Bool.false_eq_true, if_false, SK.opnds, List.map_nil, effM]
  by_cases h' : (s.mem lab).isFresh = true <;> simp [h', app]
theorem o_load (n : Option Nat) (x : SO) (L : Option Nat) : vcOp Γ lab dst (.load n x L) s K = match x.ev s with
    | .ptr d o => if labOk L d then (match s.mem d with
      | .var _ cs => (match partV cs o n with
        | some v => K (s.put dst v)
        | none => False)
      | _ => False) else False
    | _ => False := by
  simp only [vcOp, eff, SK.pure, Bool.false_eq_true, if_false, SK.opnds, List.map_cons, List.map_nil]
  generalize x.ev s = vx
  cases vx <;> simp only [effM]
  rename_i d o
  by_cases h : labOk L d = true
  · simp only [h, if_true]
    cases s.mem d <;> simp only []
    generalize partV _ _ _ = r
    cases r <;> simp [app]
  · simp [h]
theorem o_store (n : Nat) (x y : SO) (L : Option Nat) : vcOp Γ lab dst (.store n x y L) s K = match x.ev s with
    | .ptr d o => if labOk L d then (match s.mem d with
      | .var T cs => if (y.ev s).cells.length = n ∧ o + n ≤ cs.length ∧ (y.ev s).cells.all SV.one then K ((s.setm d (.var T (setAt cs o (y.ev s).cells))).put dst (.tup [])) else False
      | _ => False) else False
    | _ => False := by
  simp only [vcOp, eff, SK.pure, Bool.false_eq_true, if_false, SK.opnds, List.map_cons, List.map_nil]
  generalize x.ev s = vx
  cases vx <;> simp only [effM]
  rename_i d o
  by_cases h : labOk L d = true
  · simp only [h, if_true]
    cases s.mem d <;> simp only []
    rename_i T cs
    by_cases h2 : (y.ev s).cells.length = n ∧ o + n ≤ cs.length ∧ (y.ev s).cells.all SV.one = true
    · simp only [h2, and_self, if_true, app, true_and]
    · simp only [h2, if_false]
  · simp [h]
/-- The arguments of a call, with the rows of their slices in their place. -/
def argsOf (s : St) (xs : List SO) : List SV := (xs.map (SO.ev s)).map (SV.res1 s.mem)
theorem o_call (f : Nat) (xs : List SO) : vcOp Γ lab dst (.call f xs) s K = if (argsOf s xs).all SV.arg1 then vK s dst K (Γ f (argsOf s xs)) else False := by
  simp only [vcOp, eff, SK.pure, Bool.false_eq_true, if_false, SK.opnds, effM, argsOf]
  by_cases h : ((xs.map (SO.ev s)).map (SV.res1 s.mem)).all SV.arg1 = true
  · simp only [h, if_true]
    generalize Γ f _ = r
    cases r <;> simp [vK, app]
  · simp only [h, Bool.false_eq_true, if_false]
theorem v_some (p : Prop) (v : SV) : vK s dst K (some (p, v)) = (p ∧ K (s.put dst v)) := by rw [vK]
end
/-! Loops. -/
/-- What is to be shown at a loop. -/
def LoopG (Γ : Gam) (b : SC) (s : St) (K : SE → St → Prop) : Prop := vc Γ (.loop 0 b) s K
theorem e_loop (Γ : Gam) (k : Nat) (b : SC) (s : St) (K : SE → St → Prop) : vc Γ (.loop k b) s K = LoopG Γ b s K := by unfold LoopG; rw [vc, vc]
theorem loopG_congr {Γ : Gam} {b : SC} {s s' : St} {K : SE → St → Prop} (h : s = s') : LoopG Γ b s K = LoopG Γ b s' K := by rw [h]
theorem loopG_intro {Γ : Gam} {b : SC} {s : St} {K : SE → St → Prop} {ι : Type} (F : ι → List (Nat × SV)) (M : ι → List (Nat × Cel)) (I : ι → Prop) (μ : ι → Nat)
    (h0 : ∃ i, I i ∧ listsOk (F i) (M i) = true ∧ frIn s (F i) ∧ memIn s (M i))
    (h : ∀ i, I i → vc Γ b (St.of (F i) (M i)) fun e s' => match e with
      | .normal => ∃ j, (I j ∧ μ j < μ i) ∧ listsOk (F j) (M j) = true ∧ frIn s' (F j) ∧ memIn s' (M j)
      | .exit i => K (.exit i) s'
      | .ret => K .ret s') : LoopG Γ b s K := by
  unfold LoopG
  rw [vc]
  exact ⟨ι, F, M, I, μ, h0, h⟩
theorem int_inj (k : IntKind) (a b : Int) : (SV.int k a = SV.int k b) = (a = b) := by simp
/-! The operations on integers. -/
section
variable (k j : IntKind) (a b : Int)
theorem b_add : binV .add (.int k a) (.int k b) = some (True, .int k (k.wrap (a + b))) := by simp [binV, binI]
theorem b_sub : binV .sub (.int k a) (.int k b) = some (True, .int k (k.wrap (a - b))) := by simp [binV, binI]
theorem b_mul : binV .mul (.int k a) (.int k b) = some (True, .int k (k.wrap (a * b))) := by simp [binV, binI]
theorem b_quo : binV .quo (.int k a) (.int k b) = some (b ≠ 0, .int k (k.wrap (a.tdiv b))) := by simp [binV, binI]
theorem b_rem : binV .rem (.int k a) (.int k b) = some (b ≠ 0, .int k (a.tmod b)) := by simp [binV, binI]
theorem b_and : binV .and (.int k a) (.int k b) = some (True, .int k (bits .and k a b)) := by simp [binV, binI]
theorem b_or : binV .or (.int k a) (.int k b) = some (True, .int k (bits .or k a b)) := by simp [binV, binI]
theorem b_xor : binV .xor (.int k a) (.int k b) = some (True, .int k (bits .xor k a b)) := by simp [binV, binI]
theorem b_andNot : binV .andNot (.int k a) (.int k b) = some (True, .int k (bits .andNot k a b)) := by simp [binV, binI]
theorem b_eql : binV .eql (.int k a) (.int k b) = some (True, .bool (a == b)) := by simp [binV, binI]
theorem b_neq : binV .neq (.int k a) (.int k b) = some (True, .bool (a != b)) := by simp [binV, binI]
theorem b_lss : binV .lss (.int k a) (.int k b) = some (True, .bool (decide (a < b))) := by simp [binV, binI]
theorem b_leq : binV .leq (.int k a) (.int k b) = some (True, .bool (decide (a ≤ b))) := by simp [binV, binI]
theorem b_gtr : binV .gtr (.int k a) (.int k b) = some (True, .bool (decide (b < a))) := by simp [binV, binI]
theorem b_geq : binV .geq (.int k a) (.int k b) = some (True, .bool (decide (b ≤ a))) := by simp [binV, binI]
theorem b_shl : binV .shl (.int k a) (.int j b) = some (0 ≤ b, .int k (k.wrap (a * 2 ^ (min b.toNat k.bits)))) := by simp [binV]
theorem b_shr : binV .shr (.int k a) (.int j b) = some (0 ≤ b, .int k (a.fdiv (2 ^ (min b.toNat k.bits)))) := by simp [binV]
end
end Go.Proofs.Ytjmkmcjpppdglaa.Sx
