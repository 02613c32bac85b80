/- The reckoning of what is to be shown, step by step: an equation for each piece of code and each operation. -/
import Derived.Test.YtgklfolmlcfjgaaY14
namespace Go.Proofs.Ytgklfolmlcfjgaa.Y
open Go.RowKit
set_option linter.unusedSimpArgs false
set_option linter.unusedVariables false
section
variable (Γ : Gam) (s : St)
theorem e_fun (F : SF) (xs : List SV) (ow : Option Nat) (R : SV → Option (Nat × Row SV) → Prop) : vcFun Γ F xs ow R = vc Γ F.body (St.of (entFr 0 xs) []) fun e s => match e with
    | .exit _ => False
    | .normal => vcRet ow R F.res s
    | .ret => vcRet ow R F.res s := by unfold vcFun; exact rfl
theorem e_skip (K : SE → St → Prop) : vc Γ .skip s K = K .normal s := by rw [vc]
theorem e_reg (id : Nat) (ops : List SOp) (live : List Nat) (K : SE → St → Prop) : vc Γ (.reg id ops live) s K = vcOps Γ ops (1000 * id) s (fun s' => K .normal (keepSt live s')) := by rw [vc]
theorem e_seq (a b : SC) (K : SE → St → Prop) : vc Γ (.seq a b) s K = vc Γ a s fun e s' => match e with
    | .normal => vc Γ b s' K
    | .exit i => K (.exit i) s'
    | .ret => K .ret s' := by rw [vc]; rfl
theorem e_cond (c : SO) (a b : SC) (K : SE → St → Prop) : vc Γ (.cond c a b) s K = match c.ev s with
    | .bool t => if t = true then vc Γ a s K else vc Γ b s K
    | _ => False := by rw [vc]; rfl
theorem e_block (id : Nat) (b : SC) (K : SE → St → Prop) : vc Γ (.block id b) s K = vc Γ b s fun e s' => match e with
    | .exit i => if i = id then K .normal s' else K (.exit i) s'
    | .normal => K .normal s'
    | .ret => K .ret s' := by rw [vc]; rfl
theorem e_exit (id : Nat) (K : SE → St → Prop) : vc Γ (.exit id) s K = K (.exit id) s := by rw [vc]
theorem e_frz0 (K : SE → St → Prop) : vc Γ (.frz []) s K = K .normal s := by rw [vc, frzSt]
theorem e_frz1 (t : Nat) (ts : List Nat) (K : SE → St → Prop) : vc Γ (.frz (t :: ts)) s K = vc Γ (.frz ts) (setL s (own1 s.mem (s.fr t))) K := by rw [vc, vc, frzSt]
theorem e_ret (K : SE → St → Prop) : vc Γ .ret s K = K .ret s := by rw [vc]
theorem e_nil (i : Nat) (K : St → Prop) : vcOps Γ [] i s K = K s := by rw [vcOps]
theorem e_op (dst : Option Nat) (k : SK) (rest : List SOp) (i : Nat) (K : St → Prop) : vcOps Γ (⟨dst, none, k⟩ :: rest) i s K = vcOp Γ i dst k s fun s' => vcOps Γ rest (i + 1) s' K := by rw [vcOps]
theorem e_opg (dst : Option Nat) (g : Nat) (want : Bool) (k : SK) (rest : List SOp) (i : Nat) (K : St → Prop) : vcOps Γ (⟨dst, some (g, want), k⟩ :: rest) i s K = match s.fr g with
    | .bool b => if b = want then vcOp Γ i dst k (s.put (some g) (.bool want)) fun s' => vcOps Γ rest (i + 1) s' K
        else vcOps Γ rest (i + 1) ((s.put (some g) (.bool (!want))).put dst (.tup [])) K
    | .tup [] => vcOps Γ rest (i + 1) (s.put dst (.tup [])) K
    | _ => False := by rw [vcOps]; rfl
variable (lab : Nat) (dst : Option Nat) (K : St → Prop)
theorem o_mov (x : SO) : vcOp Γ lab dst (.mov x) s K = K (s.put dst (x.ev s)) := by
  simp [vcOp, eff, SK.pure, SK.opnds, effP, app, Eff.val, setL]
theorem o_pick (c a b : SO) : vcOp Γ lab dst (.pick c a b) s K = match c.ev s with
    | .bool t => if t = true then K (s.put dst (a.ev s)) else K (s.put dst (b.ev s))
    | _ => False := by rw [vcOp]; rfl
/-- A value, if there is one, under its condition. -/
def vK (s : St) (dst : Option Nat) (K : St → Prop) : Option (Prop × SV) → Prop
  | some (p, v) => p ∧ K (s.put dst v)
  | none => False
theorem pure_vK (k : SK) (hk : k.pure = true) (hp : ∀ c a b, k ≠ .pick c a b) : vcOp Γ lab dst k s K = vK s dst K (effP k (k.opnds.map (SO.ev s))) := by
  cases k <;> simp [SK.pure] at hk <;> first | exact absurd rfl (hp _ _ _) | skip
  all_goals
    simp only [vcOp, eff, SK.pure, if_true]
    generalize effP _ _ = r
    cases r <;> simp [vK, app, Eff.val, setL]
theorem o_bin (op : BinOp) (x y : SO) : vcOp Γ lab dst (.bin op x y) s K = vK s dst K (binV op (x.ev s) (y.ev s)) := by
  rw [pure_vK _ _ _ _ _ _ rfl (by simp)]; simp only [SK.opnds, List.map_cons, List.map_nil, effP]
theorem o_eqb (neg : Bool) (x y : SO) : vcOp Γ lab dst (.eqb neg x y) s K = match x.ev s, y.ev s with
    | .bool a, .bool b => K (s.put dst (.bool (if neg then !(a == b) else a == b)))
    | _, _ => False := by
  rw [pure_vK _ _ _ _ _ _ rfl (by simp)]; simp only [SK.opnds, List.map_cons, List.map_nil]
  generalize x.ev s = vx
  generalize y.ev s = vy
  cases vx <;> cases vy <;> simp [effP, vK]
theorem o_eqs (neg : Bool) (offs : List (Nat × Nat)) (x y : SO) : vcOp Γ lab dst (.eqs neg offs x y) s K = match x.ev s, y.ev s with
    | .agg xs, .agg ys => (match eqCells xs ys offs with
      | some b => K (s.put dst (.bool (if neg then !b else b)))
      | none => False)
    | _, _ => False := by
  rw [pure_vK _ _ _ _ _ _ rfl (by simp)]; simp only [SK.opnds, List.map_cons, List.map_nil]
  generalize x.ev s = vx
  generalize y.ev s = vy
  cases vx <;> cases vy <;> simp only [effP, vK]
  generalize eqCells _ _ _ = r
  cases r <;> simp
theorem o_neg (x : SO) : vcOp Γ lab dst (.un .neg x) s K = match x.ev s with
    | .int k a => K (s.put dst (.int k (k.wrap (0 - a))))
    | _ => False := by
  rw [pure_vK _ _ _ _ _ _ rfl (by simp)]; simp only [SK.opnds, List.map_cons, List.map_nil]
  generalize x.ev s = vx
  cases vx <;> simp [effP, vK]
theorem o_xor (x : SO) : vcOp Γ lab dst (.un .xor x) s K = match x.ev s with
    | .int k a => K (s.put dst (.int k (bits .xor k (if k.signed then -1 else k.max) a)))
    | _ => False := by
  rw [pure_vK _ _ _ _ _ _ rfl (by simp)]; simp only [SK.opnds, List.map_cons, List.map_nil]
  generalize x.ev s = vx
  cases vx <;> simp [effP, vK]
theorem o_not (x : SO) : vcOp Γ lab dst (.un .not x) s K = match x.ev s with
    | .bool b => K (s.put dst (.bool (!b)))
    | _ => False := by
  rw [pure_vK _ _ _ _ _ _ rfl (by simp)]; simp only [SK.opnds, List.map_cons, List.map_nil]
  generalize x.ev s = vx
  cases vx <;> simp [effP, vK]
theorem o_conv (k : IntKind) (x : SO) : vcOp Γ lab dst (.conv k x) s K = match x.ev s with
    | .int _ a => K (s.put dst (.int k (k.wrap a)))
    | _ => False := by
  rw [pure_vK _ _ _ _ _ _ rfl (by simp)]; simp only [SK.opnds, List.map_cons, List.map_nil]
  generalize x.ev s = vx
  cases vx <;> simp [effP, vK]
theorem o_faddr (off : Nat) (x : SO) : vcOp Γ lab dst (.faddr off x) s K = match x.ev s with
    | .ptr d o => K (s.put dst (.ptr d (o + off)))
    | .gp g o => K (s.put dst (.gp g (o + off)))
    | .fz cs => off < cs.length ∧ K (s.put dst (.fz (cs.drop off)))
    | .elem d g n i o => K (s.put dst (.elem d g n i (o + off)))
    | _ => False := by
  rw [pure_vK _ _ _ _ _ _ rfl (by simp)]; simp only [SK.opnds, List.map_cons, List.map_nil]
  generalize x.ev s = vx
  cases vx <;> simp [effP, vK]
theorem o_bins (op : BinOp) (x y : SO) : vcOp Γ lab dst (.bins op x y) s K = match x.ev s, y.ev s with
    | .str a, .str b => vK s dst K (binS op a b)
    | _, _ => False := by
  rw [pure_vK _ _ _ _ _ _ rfl (by simp)]; simp only [SK.opnds, List.map_cons, List.map_nil]
  generalize x.ev s = vx
  generalize y.ev s = vy
  cases vx <;> cases vy <;> simp only [effP, vK]
theorem o_mkf (f : Nat) (cs : List SO) : vcOp Γ lab dst (.mkf f cs) s K = if (cs.map (SO.ev s)).all SV.one then K (s.put dst (.clo f (cs.map (SO.ev s)))) else False := by
  rw [pure_vK _ _ _ _ _ _ rfl (by simp)]
  change vK s dst K (effP (.mkf f cs) (cs.map (SO.ev s))) = _
  simp only [effP]
  by_cases h : (cs.map (SO.ev s)).all SV.one = true
  · simp only [h, if_true, vK, true_and]
  · simp only [h, Bool.false_eq_true, if_false, vK]
theorem o_sidx (x y : SO) : vcOp Γ lab dst (.sidx x y) s K = match x.ev s, y.ev s with
    | .str p, .int _ i => (0 ≤ i ∧ i < p.length) ∧ K (s.put dst (.int .u8 ((p.getD i.toNat 0).toNat : Int)))
    | _, _ => False := by
  rw [pure_vK _ _ _ _ _ _ rfl (by simp)]; simp only [SK.opnds, List.map_cons, List.map_nil]
  generalize x.ev s = vx
  generalize y.ev s = vy
  cases vx <;> cases vy <;> simp only [effP, vK]
theorem o_aidx (n sz : Nat) (k : Option Nat) (x y : SO) : vcOp Γ lab dst (.aidx n sz k x y) s K = match x.ev s, y.ev s with
    | .agg cs, .int _ i => (match partV cs (i.toNat * sz) k with
      | some v => (0 ≤ i ∧ i < (n : Int)) ∧ K (s.put dst v)
      | none => False)
    | _, _ => False := by
  rw [pure_vK _ _ _ _ _ _ rfl (by simp)]; simp only [SK.opnds, List.map_cons, List.map_nil]
  generalize x.ev s = vx
  generalize y.ev s = vy
  cases vx <;> cases vy <;> simp only [effP, vK]
  generalize partV _ _ _ = r
  cases r <;> simp only [Option.map_some, Option.map_none, vK]
theorem o_aptr (n sz : Nat) (x y : SO) : vcOp Γ lab dst (.aptr n sz x y) s K = match x.ev s, y.ev s with
    | .ptr d o, .int _ i => (0 ≤ i ∧ i < (n : Int)) ∧ K (s.put dst (.ptr d (o + i.toNat * sz)))
    | .gp g o, .int _ i => (0 ≤ i ∧ i < (n : Int)) ∧ K (s.put dst (.gp g (o + i.toNat * sz)))
    | _, _ => False := by
  rw [pure_vK _ _ _ _ _ _ rfl (by simp)]; simp only [SK.opnds, List.map_cons, List.map_nil]
  generalize x.ev s = vx
  generalize y.ev s = vy
  cases vx <;> cases vy <;> simp only [effP, vK]
theorem o_ssub (x : SO) (lo hi : Option SO) : vcOp Γ lab dst (.ssub x lo hi) s K = match x.ev s with
    | .str p => (match bnds p.length lo hi ((lo.toList ++ hi.toList).map (SO.ev s)) with
      | some (l, h) => (0 ≤ l ∧ l ≤ h ∧ h ≤ (p.length : Int)) ∧ K (s.put dst (.str ((p.take h.toNat).drop l.toNat)))
      | none => False)
    | _ => False := by
  rw [pure_vK _ _ _ _ _ _ rfl (by simp)]; simp only [SK.opnds, List.map_cons]
  generalize x.ev s = vx
  cases vx <;> simp only [effP, vK]
  generalize bnds _ _ _ _ = r
  cases r <;> simp only [Option.map_some, Option.map_none, vK]
theorem o_fld (off : Nat) (n : Option Nat) (x : SO) : vcOp Γ lab dst (.fld off n x) s K = match x.ev s with
    | .agg cs => (match partV cs off n with
      | some v => K (s.put dst v)
      | none => False)
    | _ => False := by
  rw [pure_vK _ _ _ _ _ _ rfl (by simp)]; simp only [SK.opnds, List.map_cons, List.map_nil]
  generalize x.ev s = vx
  cases vx <;> simp only [effP, vK]
  generalize partV _ _ _ = r
  cases r <;> simp
theorem o_ext (x : SO) (i : Nat) : vcOp Γ lab dst (.ext x i) s K = match x.ev s with
    | .tup vs => (match vs[i]? with
      | some (.tup _) => False
      | some v => K (s.put dst v)
      | none => False)
    | _ => False := by
  rw [pure_vK _ _ _ _ _ _ rfl (by simp)]; simp only [SK.opnds, List.map_cons, List.map_nil]
  generalize x.ev s = vx
  cases vx <;> simp only [effP, vK]
  rename_i vs
  generalize vs[i]? = r
  cases r with
  | none => simp
  | some v => cases v <;> simp
theorem o_mx (m : Bool) (x y : SO) : vcOp Γ lab dst (.mx m x y) s K = vK s dst K (effP (.mx m x y) [x.ev s, y.ev s]) := by
  rw [pure_vK _ _ _ _ _ _ rfl (by simp)]; simp only [SK.opnds, List.map_cons, List.map_nil]
theorem o_mx3 (m : Bool) (x y z : SO) : vcOp Γ lab dst (.mx3 m x y z) s K = vK s dst K (effP (.mx3 m x y z) [x.ev s, y.ev s, z.ev s]) := by
  rw [pure_vK _ _ _ _ _ _ rfl (by simp)]; simp only [SK.opnds, List.map_cons, List.map_nil]
theorem b_max3 (x y z : SO) (k : IntKind) (a b c : Int) : effP (.mx3 true x y z) [.int k a, .int k b, .int k c] = some (True, .int k (if c > (if b > a then b else a) then c else (if b > a then b else a))) := by simp [effP]
theorem b_min3 (x y z : SO) (k : IntKind) (a b c : Int) : effP (.mx3 false x y z) [.int k a, .int k b, .int k c] = some (True, .int k (if c < (if b < a then b else a) then c else (if b < a then b else a))) := by simp [effP]
theorem b_max (x y : SO) (k : IntKind) (a b : Int) : effP (.mx true x y) [.int k a, .int k b] = some (True, .int k (if b > a then b else a)) := by simp [effP]
theorem b_min (x y : SO) (k : IntKind) (a b : Int) : effP (.mx false x y) [.int k a, .int k b] = some (True, .int k (if b < a then b else a)) := by simp [effP]
theorem o_build (z : List SV) (ps : List (Nat × Nat × SO)) : vcOp Γ lab dst (.build z ps) s K = match fillP z (ps.map fun p => (p.1, p.2.1)) ((ps.map (·.2.2)).map (SO.ev s)) with
    | some cs => K (s.put dst (.agg cs))
    | none => False := by
  rw [pure_vK _ _ _ _ _ _ rfl (by simp)]; simp only [SK.opnds, effP]
  generalize fillP _ _ _ = r
  cases r <;> simp [vK]
theorem o_box (T : Nat) (x : SO) : vcOp Γ lab dst (.box T x) s K = if (x.ev s).cells.all SV.one then (if (s.mem lab).isFresh then K ((s.setm lab (.var T (x.ev s).cells)).put dst (.ptr lab 0)) else False) else False := by
  simp only [vcOp, eff, SK.pure, Bool.false_eq_true, if_false, SK.opnds, List.map_cons, List.map_nil, effM]
  by_cases h : (x.ev s).cells.all SV.one = true
  · by_cases h' : (s.mem lab).isFresh = true <;> simp [h, h', app, setL]
  · simp [h]
theorem o_alloc (T : Nat) (z : List SV) : vcOp Γ lab dst (.alloc T z) s K = if (s.mem lab).isFresh then K ((s.setm lab (.var T z)).put dst (.ptr lab 0)) else False := by
  simp only [vcOp, eff, SK.pure, Bool.false_eq_true, if_false, SK.opnds, List.map_nil, effM]
  by_cases h' : (s.mem lab).isFresh = true <;> simp [h', app, setL]
/-- An effect, if there is one, under its condition. -/
def eK (s : St) (dst : Option Nat) (K : St → Prop) : Option (Prop × Eff) → Prop
  | some (p, e) => p ∧ (match app dst s e with
    | some s' => K s'
    | none => False)
  | none => False
theorem mem_eK (k : SK) (hk : k.pure = false) : vcOp Γ lab dst k s K = eK s dst K (effM Γ lab k (k.opnds.map (SO.ev s)) s.mem) := by
  cases k <;> simp [SK.pure] at hk
  all_goals
    simp only [vcOp, eff, SK.pure, Bool.false_eq_true, if_false]
    generalize effM _ _ _ _ _ = r
    cases r <;> rfl
theorem k_none : eK s dst K none = False := by rw [eK]
theorem k_val (p : Prop) (v : SV) : eK s dst K (some (p, .val v)) = (p ∧ K (s.put dst v)) := by
  simp [eK, app, Eff.val, setL]
theorem k_new (p : Prop) (v : SV) (l : Nat) (c : Cel) : eK s dst K (some (p, ⟨v, [(l, c)], []⟩)) = (p ∧ if (s.mem l).isFresh = true then K ((s.setm l c).put dst v) else False) := by
  by_cases h : (s.mem l).isFresh = true <;> simp [eK, app, setL, h]
theorem k_set (p : Prop) (v : SV) (l : List (Nat × Cel)) : eK s dst K (some (p, ⟨v, [], l⟩)) = (p ∧ K ((setL s l).put dst v)) := by
  simp [eK, app]
theorem k_both (p : Prop) (v : SV) (l : Nat) (c : Cel) (q : List (Nat × Cel)) : eK s dst K (some (p, ⟨v, [(l, c)], q⟩)) = (p ∧ if (s.mem l).isFresh = true then K ((setL (s.setm l c) q).put dst v) else False) := by
  by_cases h : (s.mem l).isFresh = true <;> simp [eK, app, setL, h]
theorem l_nil : setL s [] = s := by rw [setL]
theorem l_cons (d : Nat) (c : Cel) (l : List (Nat × Cel)) : setL s ((d, c) :: l) = setL (s.setm d c) l := by rw [setL]
/-- What lies in a package's variable. -/
def gpK (s : St) (dst : Option Nat) (K : St → Prop) (n : Option Nat) (g o : Nat) : Prop := match glbAt g with
  | some cs => (match partV cs o n with
    | some v => K (s.put dst v)
    | none => False)
  | none => False
theorem o_load (n : Option Nat) (x : SO) (L : Option Nat) : vcOp Γ lab dst (.load n x L) s K = match x.ev s with
    | .ptr d o => if labOk L d then (match s.mem d with
      | .var _ cs => (match partV cs o n with
        | some v => K (s.put dst v)
        | none => False)
      | _ => False) else False
    | .fz cs => if L.isNone then (match partV cs 0 n with
        | some v => K (s.put dst v)
        | none => False) else False
    | .gp g o => if L.isNone then gpK s dst K n g o else False
    | .elem d g sz i o => if L.isNone then (match rowAt s.mem (.sl d g) with
      | some r => if sz = r.size then (match partV (r.get i) o n with
        | some v => i < r.len ∧ K (s.put dst v)
        | none => False) else False
      | none => False) else False
    | _ => False := by
  rw [mem_eK _ _ _ _ _ _ rfl]
  simp only [SK.opnds, List.map_cons, List.map_nil, effM]
  generalize x.ev s = vx
  cases vx <;> simp only [k_none]
  case ptr d o =>
    by_cases h : labOk L d = true
    · simp only [h, if_true]
      cases s.mem d <;> simp only [k_none]
      generalize partV _ _ _ = r
      cases r <;> simp [k_none, k_val]
    · simp [h, k_none]
  case fz cs =>
    by_cases h : L.isNone = true
    · simp only [h, if_true]
      generalize partV _ _ _ = r
      cases r <;> simp [k_none, k_val]
    · simp [h, k_none]
  case gp g o =>
    by_cases h : L.isNone = true
    · simp only [h, if_true, gpK]
      generalize glbAt g = z
      cases z with
      | none => simp [k_none]
      | some cs =>
        simp only
        generalize partV _ _ _ = r
        cases r <;> simp [k_none, k_val]
    · simp [h, k_none]
  case elem d g sz i o =>
    by_cases h : L.isNone = true
    · simp only [h, if_true]
      generalize rowAt _ _ = r
      cases r with
      | none => simp [k_none]
      | some r =>
        simp only
        by_cases h2 : sz = r.size
        · simp only [h2, if_true]
          generalize partV _ _ _ = q
          cases q <;> simp [k_none, k_val]
        · simp [h2, k_none]
    · simp [h, k_none]
theorem o_store (n : Nat) (x y : SO) (L : Option Nat) : vcOp Γ lab dst (.store n x y L) s K = match x.ev s with
    | .ptr d o => if labOk L d then (match s.mem d with
      | .var T cs => if (y.ev s).cells.length = n ∧ o + n ≤ cs.length ∧ (y.ev s).cells.all SV.one then K ((s.setm d (.var T (setAt cs o (y.ev s).cells))).put dst (.tup [])) else False
      | _ => False) else False
    | .elem d g sz i o => if L.isNone then (match s.mem d with
      | .row g' e r => if g = g' ∧ sz = r.size ∧ ((y.ev s).go1 s.mem).cells.length = n ∧ ((y.ev s).go1 s.mem).cells.all SV.one ∧ ((own1 s.mem (y.ev s)).all fun p => p.1 != d) = true then (match r.put i o ((y.ev s).go1 s.mem).cells with
        | some r' => i < r.len ∧ K ((setL s (own1 s.mem (y.ev s) ++ [(d, .row g e r')])).put dst (.tup []))
        | none => False) else False
      | _ => False) else False
    | _ => False := by
  rw [mem_eK _ _ _ _ _ _ rfl]
  simp only [SK.opnds, List.map_cons, List.map_nil, effM]
  generalize x.ev s = vx
  cases vx <;> simp only [k_none]
  case ptr d o =>
    by_cases h : labOk L d = true
    · simp only [h, if_true]
      cases s.mem d <;> simp only [k_none]
      rename_i T cs
      by_cases h2 : (y.ev s).cells.length = n ∧ o + n ≤ cs.length ∧ (y.ev s).cells.all SV.one = true
      · simp only [h2, and_self, if_true, k_set, setL, true_and]
      · simp only [h2, if_false, k_none]
    · simp [h, k_none]
  case elem d g sz i o =>
    by_cases h : L.isNone = true
    · simp only [h, if_true]
      cases s.mem d <;> simp only [k_none]
      rename_i g' e r
      by_cases h2 : g = g' ∧ sz = r.size ∧ ((y.ev s).go1 s.mem).cells.length = n ∧ ((y.ev s).go1 s.mem).cells.all SV.one = true ∧ ((own1 s.mem (y.ev s)).all fun p => p.1 != d) = true
      · simp only [if_pos h2]
        generalize Row.put _ _ _ _ = q
        cases q <;> simp only [Option.map_some, Option.map_none, k_none, k_set]
      · simp only [if_neg h2, k_none]
    · simp [h, k_none]
theorem o_lenS (x : SO) : vcOp Γ lab dst (.len true x) s K = match x.ev s with
    | .str t => K (s.put dst (.int .i64 t.length))
    | _ => False := by
  rw [mem_eK _ _ _ _ _ _ rfl]
  simp only [SK.opnds, List.map_cons, List.map_nil, effM]
  generalize x.ev s = vx
  cases vx <;> simp [k_none, k_val]
theorem o_len (x : SO) : vcOp Γ lab dst (.len false x) s K = match x.ev s with
    | .nil => K (s.put dst (.int .i64 0))
    | v => (match rowAt s.mem v with
      | some r => K (s.put dst (.int .i64 r.len))
      | none => False) := by
  rw [mem_eK _ _ _ _ _ _ rfl]
  simp only [SK.opnds, List.map_cons, List.map_nil, effM]
  generalize x.ev s = vx
  cases vx <;> simp only [k_none, k_val, true_and]
  all_goals
    generalize rowAt _ _ = r
    cases r <;> simp [k_none, k_val]
theorem o_idx (sz : Nat) (x y : SO) : vcOp Γ lab dst (.idx sz x y) s K = match x.ev s, y.ev s with
    | .sl d g, .int _ i => (match rowAt s.mem (.sl d g) with
      | some r => if sz = r.size then (0 ≤ i ∧ i < r.len) ∧ K (s.put dst (.elem d g sz i.toNat 0)) else False
      | none => False)
    | .rw r, .int _ i => if sz = r.size then (0 ≤ i ∧ i < r.len) ∧ K (s.put dst (.fz (r.get i.toNat))) else False
    | _, _ => False := by
  rw [mem_eK _ _ _ _ _ _ rfl]
  simp only [SK.opnds, List.map_cons, List.map_nil, effM]
  generalize x.ev s = vx
  generalize y.ev s = vy
  cases vx <;> cases vy <;> simp only [k_none]
  case sl.int d g k i =>
    generalize rowAt _ _ = r
    cases r with
    | none => simp [k_none]
    | some r =>
      simp only
      by_cases h2 : sz = r.size
      · simp only [h2, if_true, k_val]
      · simp [h2, k_none]
  case rw.int r k i =>
    by_cases h2 : sz = r.size
    · simp only [h2, if_true, k_val]
    · simp [h2, k_none]
theorem o_isnil (neg : Bool) (x : SO) : vcOp Γ lab dst (.isnil neg x) s K = match x.ev s with
    | .nil => K (s.put dst (.bool (!neg)))
    | .nn _ => K (s.put dst (.bool neg))
    | v => (match rowAt s.mem v with
      | some r => 0 < r.len ∧ K (s.put dst (.bool neg))
      | none => False) := by
  rw [mem_eK _ _ _ _ _ _ rfl]
  simp only [SK.opnds, List.map_cons, List.map_nil, effM]
  generalize x.ev s = vx
  cases vx <;> simp only [k_none, k_val, true_and]
  all_goals
    generalize rowAt _ _ = r
    cases r <;> simp [k_none, k_val]
theorem o_bad : vcOp Γ lab dst .bad s K = False := by
  rw [mem_eK _ _ _ _ _ _ rfl]
  simp only [effM, k_none]
theorem o_nilrow (e : Nat) (r : Row SV) : vcOp Γ lab dst (.nilrow e r) s K = if (s.mem lab).isFresh = true then K ((s.setm lab (.row 0 e r)).put dst (.sl lab 0)) else False := by
  rw [mem_eK _ _ _ _ _ _ rfl]
  simp only [effM, k_new, true_and]
theorem o_litf (e len : Nat) (r : Row SV) (z : List SV) (ps : List (Nat × Nat × SO)) : vcOp Γ lab dst (.litf e len r z ps) s K = match fillP (List.replicate len z).flatten (ps.map fun p => (p.1, p.2.1)) (((ps.map (·.2.2)).map (SO.ev s)).map (SV.go1 s.mem)) with
    | some cs => (match mkRow r len cs with
      | some r' => if (s.mem lab).isFresh = true then K ((setL (s.setm lab (.row 0 e r')) (((ps.map (·.2.2)).map (SO.ev s)).flatMap (own1 s.mem))).put dst (.sl lab 0)) else False
      | none => False)
    | none => False := by
  rw [mem_eK _ _ _ _ _ _ rfl]
  simp only [SK.opnds, effM]
  generalize fillP _ _ _ = q
  cases q with
  | none => simp [k_none]
  | some cs =>
    simp only
    generalize mkRow _ _ _ = q
    cases q <;> simp [k_none, k_both]
theorem o_litg (e len : Nat) (r : Row SV) (z : List SV) (ps : List (Nat × Nat × SO)) : vcOp Γ lab dst (.litg e len r z ps) s K = match fillP (List.replicate len z).flatten (ps.map fun p => (p.1, p.2.1)) (((ps.map (·.2.2)).map (SO.ev s)).map (SV.go1 s.mem)) with
    | some cs => (match mkRow r len cs with
      | some r' => if (s.mem lab).isFresh = true then K ((setL (s.setm lab (.frow 0 r')) (((ps.map (·.2.2)).map (SO.ev s)).flatMap (own1 s.mem))).put dst (.rw r')) else False
      | none => False)
    | none => False := by
  rw [mem_eK _ _ _ _ _ _ rfl]
  simp only [SK.opnds, effM]
  generalize fillP _ _ _ = q
  cases q with
  | none => simp [k_none]
  | some cs =>
    simp only
    generalize mkRow _ _ _ = q
    cases q <;> simp [k_none, k_both]
theorem o_lit (e len : Nat) (r : Row SV) (z : List SV) (ps : List (Nat × Nat × SO)) : vcOp Γ lab dst (.lit e len r z ps) s K = match fillP (List.replicate len z).flatten (ps.map fun p => (p.1, p.2.1)) ((ps.map (·.2.2)).map (SO.ev s)) with
    | some cs => (match mkRow r len cs with
      | some r' => if (s.mem lab).isFresh = true then K ((s.setm lab (.row 0 e r')).put dst (.sl lab 0)) else False
      | none => False)
    | none => False := by
  rw [mem_eK _ _ _ _ _ _ rfl]
  simp only [SK.opnds, effM]
  generalize fillP _ _ _ = q
  cases q with
  | none => simp [k_none]
  | some cs =>
    simp only
    generalize mkRow _ _ _ = q
    cases q <;> simp [k_none, k_new]
theorem o_litz (e len : Nat) (r : Row SV) (z : List SV) (ps : List (Nat × Nat × SO)) : vcOp Γ lab dst (.litz e len r z ps) s K = match fillP (List.replicate len z).flatten (ps.map fun p => (p.1, p.2.1)) ((ps.map (·.2.2)).map (SO.ev s)) with
    | some cs => (match mkRow r len cs with
      | some r' => if (s.mem lab).isFresh = true then K ((s.setm lab (.frow 0 r')).put dst (.rw r')) else False
      | none => False)
    | none => False := by
  rw [mem_eK _ _ _ _ _ _ rfl]
  simp only [SK.opnds, effM]
  generalize fillP _ _ _ = q
  cases q with
  | none => simp [k_none]
  | some cs =>
    simp only
    generalize mkRow _ _ _ = q
    cases q <;> simp [k_none, k_new]
theorem o_mk (e bytes : Nat) (r : Row SV) (z : List SV) (l c : SO) : vcOp Γ lab dst (.mk e bytes r z l c) s K = match l.ev s, c.ev s with
    | .int _ l, .int _ c => (match r.rep l.toNat z with
      | some r' => (0 ≤ l ∧ l ≤ c ∧ c * bytes ≤ 140737488355328) ∧ if (s.mem lab).isFresh = true then K ((s.setm lab (.row 0 e r')).put dst (.sl lab 0)) else False
      | none => False)
    | _, _ => False := by
  rw [mem_eK _ _ _ _ _ _ rfl]
  simp only [SK.opnds, List.map_cons, List.map_nil, effM]
  generalize l.ev s = vx
  generalize c.ev s = vy
  cases vx <;> cases vy <;> simp only [k_none]
  generalize Row.rep _ _ _ = q
  cases q <;> simp only [Option.map_some, Option.map_none, k_none, k_new]
theorem o_app (e sz bytes : Nat) (x y : SO) : vcOp Γ lab dst (.app e sz bytes x y) s K = eK s dst K (effM Γ lab (.app e sz bytes x y) [x.ev s, y.ev s] s.mem) := by
  rw [mem_eK _ _ _ _ _ _ rfl]
  simp only [SK.opnds, List.map_cons, List.map_nil]
/-- Append: onto a slice of our own. -/
def appR (d g e : Nat) (bytes : Nat) : Option (Row SV) → Nat → Option (Prop × Eff)
  | some r'', n => some (n * bytes ≤ 140737488355328, ⟨.sl d (g + 1), [], [(d, .row (g + 1) e r'')]⟩)
  | none, _ => none
theorem a_sl (e sz bytes : Nat) (x y : SO) (d g g' e' : Nat) (r r' : Row SV) (v : SV) (m : Nat → Cel) (hm : m d = .row g' e' r) (hv : rowAt m v = some r') :
    effM Γ lab (.app e sz bytes x y) [.sl d g, v] m = if g = g' ∧ e' = e ∧ sz = r.size then appR d g e bytes (r.cat r') (r.len + r'.len) else none := by
  have hnn : v ≠ .nil := by intro h; subst h; simp [rowAt] at hv
  cases v <;> simp only [effM] <;> first | exact absurd rfl hnn | skip
  all_goals
    simp only [hm, hv]
    split
    · cases r.cat r' <;> simp [appR]
    · rfl
theorem a_slr (e sz bytes : Nat) (x y : SO) (d g : Nat) (r' : Row SV) (m : Nat → Cel) : effM Γ lab (.app e sz bytes x y) [.sl d g, .rw r'] m = match m d with
    | .row g' e' r => if g = g' ∧ e' = e ∧ sz = r.size then appR d g e bytes (r.cat r') (r.len + r'.len) else none
    | _ => none := by
  simp only [effM, rowAt]
  cases m d <;> simp only
  split
  · generalize Row.cat _ _ = q; cases q <;> simp [appR]
  · rfl
theorem a_sls (e sz bytes : Nat) (x y : SO) (d g d' g1 : Nat) (m : Nat → Cel) : effM Γ lab (.app e sz bytes x y) [.sl d g, .sl d' g1] m = match m d with
    | .row g' e' r => (match rowAt m (.sl d' g1) with
      | some r' => if g = g' ∧ e' = e ∧ sz = r.size then appR d g e bytes (r.cat r') (r.len + r'.len) else none
      | none => none)
    | _ => none := by
  simp only [effM]
  cases m d <;> simp only
  generalize rowAt m (.sl d' g1) = q
  cases q <;> simp only
  split
  · generalize Row.cat _ _ = q; cases q <;> simp [appR]
  · rfl
theorem a_sln (e sz bytes : Nat) (x y : SO) (d g : Nat) (m : Nat → Cel) : effM Γ lab (.app e sz bytes x y) [.sl d g, .nil] m = match m d with
    | .row g' e' r => if g = g' ∧ e' = e then some (True, ⟨.sl d (g + 1), [], [(d, .row (g + 1) e r)]⟩) else none
    | _ => none := by
  simp only [effM]
  cases m d <;> rfl
theorem a_nil (e sz bytes : Nat) (x y : SO) (v : SV) (m : Nat → Cel) : effM Γ lab (.app e sz bytes x y) [.nil, v] m = match rowAt m v with
    | some r' => if sz = r'.size then some (r'.len * bytes ≤ 140737488355328, ⟨.sl lab 0, [(lab, .row 0 e r')], []⟩) else none
    | none => none := by
  simp only [effM]
  generalize rowAt m v = q
  cases q <;> rfl
theorem appR_some (d g e bytes : Nat) (r : Row SV) (n : Nat) : appR d g e bytes (some r) n = some (n * bytes ≤ 140737488355328, ⟨.sl d (g + 1), [], [(d, .row (g + 1) e r)]⟩) := by rw [appR]
theorem o_part (sz : Nat) (x : SO) (lo hi : Option SO) : vcOp Γ lab dst (.part sz x lo hi) s K = match x.ev s with
    | .sl d g => (match s.mem d with
      | .row g' _ (.ints _ l) => if g = g' ∧ sz = 1 then (match bnds l.length lo hi ((lo.toList ++ hi.toList).map (SO.ev s)) with
        | some b => (0 < l.length ∧ 0 ≤ b.1 ∧ b.1 ≤ b.2 ∧ b.2 ≤ (l.length : Int)) ∧ K (s.put dst (.prt d g b.1.toNat (b.2 - b.1).toNat))
        | none => False) else False
      | _ => False)
    | _ => False := by
  rw [mem_eK _ _ _ _ _ _ rfl]
  simp only [SK.opnds, List.map_cons, effM]
  generalize x.ev s = vx
  cases vx <;> simp only [k_none]
  case sl d g =>
    generalize s.mem d = c
    cases c <;> try simp only [k_none]
    rename_i g' e r
    cases r <;> try simp only [k_none]
    split
    · generalize bnds _ _ _ _ = q
      cases q <;> simp only [Option.map_some, Option.map_none, k_none, k_val]
    · simp only [k_none]
theorem o_cpy (x y : SO) : vcOp Γ lab dst (.cpy x y) s K = match cpyDst s.mem (x.ev s), cpySrc s.mem (y.ev s) with
    | some (d, g, e, k, l, a, n), some (q, k', xs) => if k = k' then (a + n ≤ l.length ∧ q) ∧ K ((s.setm d (.row g e (.ints k (cpyL l a (xs.take n))))).put dst (.int .i64 (xs.take n).length)) else False
    | _, _ => False := by
  rw [mem_eK _ _ _ _ _ _ rfl]
  simp only [SK.opnds, List.map_cons, List.map_nil, effM]
  generalize cpyDst _ _ = c1
  generalize cpySrc _ _ = c2
  cases c1 with
  | none => simp only [k_none]
  | some c1 =>
    cases c2 with
    | none => simp only [k_none]
    | some c2 =>
      obtain ⟨d, g, e, k, l, a, n⟩ := c1
      obtain ⟨q, k', xs⟩ := c2
      simp only
      split
      · simp only [k_set, setL]
      · simp only [k_none]
theorem c_dsl (m : Nat → Cel) (d g : Nat) : cpyDst m (.sl d g) = match m d with
    | .row g' e (.ints k l) => if g = g' ∧ e < 1000000 then some (d, g, e, k, l, 0, l.length) else none
    | _ => none := rfl
theorem c_dprt (m : Nat → Cel) (d g a n : Nat) : cpyDst m (.prt d g a n) = match m d with
    | .row g' e (.ints k l) => if g = g' ∧ e < 1000000 then some (d, g, e, k, l, a, n) else none
    | _ => none := rfl
theorem c_sprt (m : Nat → Cel) (d g a n : Nat) : cpySrc m (.prt d g a n) = match rowAt m (.sl d g) with
    | some (.ints k l) => some (a + n ≤ l.length, k, (l.drop a).take n)
    | _ => none := rfl
theorem c_srw (m : Nat → Cel) (k : IntKind) (l : List Int) : cpySrc m (.rw (.ints k l)) = some (True, k, l) := rfl
theorem c_snn (m : Nat → Cel) (k : IntKind) (l : List Int) : cpySrc m (.nn (.ints k l)) = some (True, k, l) := rfl
theorem c_ssl (m : Nat → Cel) (d g : Nat) : cpySrc m (.sl d g) = match rowAt m (.sl d g) with
    | some (.ints k l) => some (True, k, l)
    | _ => none := rfl
theorem o_sub (fz : Bool) (sz : Nat) (x : SO) (lo hi : Option SO) : vcOp Γ lab dst (.sub fz sz x lo hi) s K = match x.ev s with
    | .nil => (match bnds 0 lo hi ((lo.toList ++ hi.toList).map (SO.ev s)) with
      | some (l, h) => (l = 0 ∧ h = 0) ∧ K (s.put dst .nil)
      | none => False)
    | v => (match rowAt s.mem v with
      | some r => if sz = r.size ∧ (fz || (own0 s.mem v).isEmpty) = true then (match bnds r.len lo hi ((lo.toList ++ hi.toList).map (SO.ev s)) with
        | some (l, h) => (0 ≤ l ∧ l ≤ h ∧ h ≤ (r.len : Int)) ∧ K ((setL s (own0 s.mem v)).put dst (.rw (r.sub l.toNat h.toNat)))
        | none => False) else False
      | none => False) := by
  rw [mem_eK _ _ _ _ _ _ rfl]
  simp only [SK.opnds, List.map_cons, effM]
  generalize x.ev s = vx
  cases vx <;> simp only
  case nil =>
    generalize bnds _ _ _ _ = q
    cases q <;> simp only [Option.map_some, Option.map_none, k_none, k_val]
  all_goals
    generalize rowAt _ _ = q
    cases q with
    | none => simp only [k_none]
    | some r =>
      simp only
      split
      · generalize bnds _ _ _ _ = q
        cases q <;> simp only [Option.map_some, Option.map_none, k_none, k_set]
      · simp only [k_none]
/-- The arguments of a call, with the rows of their slices in their place. -/
def argsOf (s : St) (xs : List SO) : List SV := (xs.map (SO.ev s)).map (SV.res1 s.mem)
/-- Behind a call. -/
def cK (s : St) (lab : Nat) (dst : Option Nat) (K : St → Prop) (fz : Bool) (vs : List SV) : Option (Prop × SV × Option (Nat × Row SV)) → Prop
  | some (p, r, none) => p ∧ (if r.solid then K (s.put dst (r.nm lab)) else if vs.all SV.noPtr1 then (if fz || (vs.flatMap (own1 s.mem)).isEmpty then K ((setL s (vs.flatMap (own1 s.mem))).put dst (r.nm lab)) else False) else False)
  | some (p, r, some (e, row)) => p ∧ (if r.solid && row.flat then (if (s.mem lab).isFresh = true then K ((s.setm lab (.row 0 e row)).put dst (r.nm lab)) else False)
      else if vs.all SV.noPtr1 then (if fz || (vs.flatMap (own1 s.mem)).isEmpty then (if (s.mem lab).isFresh = true then K ((setL (s.setm lab (.row 0 e row)) (vs.flatMap (own1 s.mem))).put dst (r.nm lab)) else False) else False) else False)
  | none => False
theorem call_cK (f : Nat) (fz : Bool) (vs : List SV) : eK s dst K (effCall Γ lab f fz vs s.mem) = if (vs.map (SV.res1 s.mem)).all SV.ok1 then cK s lab dst K fz vs (Γ f (vs.map (SV.res1 s.mem))) else False := by
  unfold effCall
  by_cases h : (vs.map (SV.res1 s.mem)).all SV.ok1 = true
  · simp only [h, if_true]
    generalize Γ f _ = q
    cases q with
    | none => simp [k_none, cK]
    | some q =>
      obtain ⟨p, r, own⟩ := q
      cases own with
      | none =>
        simp only [cK, solidAll, Bool.and_true]
        by_cases h1 : r.solid = true
        · simp only [h1, if_true, k_set, setL]
        · simp only [h1, Bool.false_eq_true, if_false]
          by_cases h2 : vs.all SV.noPtr1 = true
          · simp only [h2, if_true]
            by_cases h3 : (fz || (vs.flatMap (own1 s.mem)).isEmpty) = true
            · simp only [h3, if_true, k_set]
            · simp only [h3, Bool.false_eq_true, if_false, k_none, and_false]
          · simp only [h2, Bool.false_eq_true, if_false, k_none, and_false]
      | some er =>
        obtain ⟨e, row⟩ := er
        simp only [cK, solidAll]
        by_cases h1 : (r.solid && row.flat) = true
        · simp only [h1, if_true, k_new]
        · simp only [h1, Bool.false_eq_true, if_false]
          by_cases h2 : vs.all SV.noPtr1 = true
          · simp only [h2, if_true]
            by_cases h3 : (fz || (vs.flatMap (own1 s.mem)).isEmpty) = true
            · simp only [h3, if_true, k_both]
            · simp only [h3, Bool.false_eq_true, if_false, k_none, and_false]
          · simp only [h2, Bool.false_eq_true, if_false, k_none, and_false]
  · simp only [h, Bool.false_eq_true, if_false, k_none]
theorem k_ble (a b : Nat) : (Nat.ble a b = true) = (a ≤ b) := by simp
theorem o_call (f : Nat) (fz : Bool) (xs : List SO) : vcOp Γ lab dst (.call f fz xs) s K = if Nat.ble 1000000 f = true then False else if (argsOf s xs).all SV.ok1 then cK s lab dst K fz (xs.map (SO.ev s)) (Γ f (argsOf s xs)) else False := by
  rw [mem_eK _ _ _ _ _ _ rfl]
  change eK s dst K (if f < 1000000 then effCall Γ lab f fz (xs.map (SO.ev s)) s.mem else none) = _
  by_cases h : f < 1000000
  · have h' : ¬ Nat.ble 1000000 f = true := fun hh => by have := Nat.le_of_ble_eq_true hh; omega
    rw [if_pos h, if_neg h', call_cK]
    rfl
  · have h' : Nat.ble 1000000 f = true := Nat.ble_eq_true_of_le (by omega)
    rw [if_neg h, if_pos h', k_none]
/-- A call that writes. -/
def wK (s : St) (d g e : Nat) (dst : Option Nat) (r : Row SV) (K : St → Prop) : Option (Prop × SV × Option (Nat × Row SV)) → Prop
  | some (p, .rw r', none) => p ∧ (if r'.size = r.size ∧ r'.len = r.len ∧ r'.flat = true then K ((s.setm d (.row g e r')).put dst (.tup [])) else False)
  | _ => False
theorem w_some (d g e : Nat) (r r' : Row SV) (p : Prop) : wK s d g e dst r K (some (p, .rw r', none)) = (p ∧ (if r'.size = r.size ∧ r'.len = r.len ∧ r'.flat = true then K ((s.setm d (.row g e r')).put dst (.tup [])) else False)) := by rw [wK]
theorem o_callw (f : Nat) (x : SO) : vcOp Γ lab dst (.callw f x) s K = match x.ev s with
    | .sl d g => (match s.mem d with
      | .row g' e r => if g = g' ∧ (labsR r).isEmpty = true ∧ e < 1000000 then wK s d g e dst r K (Γ (f + 1000000) [.rw r]) else False
      | _ => False)
    | _ => False := by
  rw [mem_eK _ _ _ _ _ _ rfl]
  simp only [SK.opnds, List.map_cons, List.map_nil, effM]
  generalize x.ev s = vx
  cases vx <;> simp only [k_none]
  rename_i d g
  cases s.mem d <;> simp only [k_none]
  rename_i g' e r
  by_cases h : g = g' ∧ (labsR r).isEmpty = true ∧ e < 1000000
  · simp only [if_pos h]
    generalize Γ (f + 1000000) [.rw r] = z
    match z with
    | none => simp only [k_none, wK]
    | some (p, .rw r', none) =>
      simp only [wK]
      by_cases h2 : r'.size = r.size ∧ r'.len = r.len ∧ r'.flat = true
      · simp only [if_pos h2, k_set]
        rfl
      · simp only [if_neg h2, k_none, and_false]
    | some (p, .rw r', some q) => simp only [k_none, wK]
    | some (p, .unk, q) => simp only [k_none, wK]
    | some (p, .int _ _, q) => simp only [k_none, wK]
    | some (p, .bool _, q) => simp only [k_none, wK]
    | some (p, .str _, q) => simp only [k_none, wK]
    | some (p, .nil, q) => simp only [k_none, wK]
    | some (p, .clo _ _, q) => simp only [k_none, wK]
    | some (p, .sl _ _, q) => simp only [k_none, wK]
    | some (p, .nn _, q) => simp only [k_none, wK]
    | some (p, .ptr _ _, q) => simp only [k_none, wK]
    | some (p, .elem _ _ _ _ _, q) => simp only [k_none, wK]
    | some (p, .prt _ _ _ _, q) => simp only [k_none, wK]
    | some (p, .fz _, q) => simp only [k_none, wK]
    | some (p, .gp _ _, q) => simp only [k_none, wK]
    | some (p, .agg _, q) => simp only [k_none, wK]
    | some (p, .tup _, q) => simp only [k_none, wK]
  · simp only [if_neg h, k_none]
/-- Bytes and strings; slices that are handed on and come back longer. -/
theorem o_apps (e : Nat) (x y : SO) : vcOp Γ lab dst (.apps e x y) s K = eK s dst K (effM Γ lab (.apps e x y) [x.ev s, y.ev s] s.mem) := by
  rw [mem_eK _ _ _ _ _ _ rfl]
  simp only [SK.opnds, List.map_cons, List.map_nil]
theorem m_apps (e : Nat) (x y : SO) (d g : Nat) (bs : List UInt8) (m : Nat → Cel) : effM Γ lab (.apps e x y) [.sl d g, .str bs] m = match m d with
    | .row g' e' (.ints .u8 l) => if g = g' ∧ e' = e then some (l.length + bs.length ≤ 140737488355328, ⟨.sl d (g + 1), [], [(d, .row (g + 1) e (.ints .u8 (l ++ bs.map fun b => (b.toNat : Int))))]⟩) else none
    | _ => none := by
  simp only [effM]
  cases m d with
  | row g' e' r => cases r with
    | ints k l => cases k <;> rfl
    | _ => rfl
  | _ => rfl
theorem o_tob (e : Nat) (x : SO) : vcOp Γ lab dst (.tob e x) s K = match x.ev s with
    | .str bs => bs.length ≤ 140737488355328 ∧ (if (s.mem lab).isFresh = true then K ((s.setm lab (.row 0 e (.ints .u8 (bs.map fun b => (b.toNat : Int))))).put dst (.sl lab 0)) else False)
    | _ => False := by
  rw [mem_eK _ _ _ _ _ _ rfl]
  simp only [SK.opnds, List.map_cons, List.map_nil, effM]
  generalize x.ev s = vx
  cases vx <;> simp only [k_none]
  rw [k_new]
theorem o_tos (x : SO) : vcOp Γ lab dst (.tos x) s K = eK s dst K (effM Γ lab (.tos x) [x.ev s] s.mem) := by
  rw [mem_eK _ _ _ _ _ _ rfl]
  simp only [SK.opnds, List.map_cons, List.map_nil]
theorem t_nil (x : SO) (m : Nat → Cel) : effM Γ lab (.tos x) [.nil] m = some (True, .val (.str [])) := by simp only [effM]
theorem t_rw (x : SO) (l : List Int) (m : Nat → Cel) : effM Γ lab (.tos x) [.rw (.ints .u8 l)] m = some (True, .val (.str (l.map fun n => UInt8.ofNat n.toNat))) := by simp only [effM, rowAt]
theorem t_sl (x : SO) (d g : Nat) (m : Nat → Cel) : effM Γ lab (.tos x) [.sl d g] m = match m d with
    | .row g' _ (.ints .u8 l) => if g = g' then some (True, .val (.str (l.map fun n => UInt8.ofNat n.toNat))) else none
    | .frow g' (.ints .u8 l) => if g = g' then some (True, .val (.str (l.map fun n => UInt8.ofNat n.toNat))) else none
    | _ => none := by
  simp only [effM, rowAt]
  cases m d with
  | fresh => rfl
  | var T cs => rfl
  | row g' e r => by_cases h : g = g' <;> (cases r with | ints k l => cases k <;> simp [h] | _ => simp [h])
  | frow g' r => by_cases h : g = g' <;> (cases r with | ints k l => cases k <;> simp [h] | _ => simp [h])
theorem o_calla (f : Nat) (xs : List SO) : vcOp Γ lab dst (.calla f xs) s K = eK s dst K (effM Γ lab (.calla f xs) (xs.map (SO.ev s)) s.mem) := by
  rw [mem_eK _ _ _ _ _ _ rfl]
  rfl
/-- What comes of it. -/
def apR (d g e : Nat) (r : Row SV) : Option (Prop × SV × Option (Nat × Row SV)) → Option (Prop × Eff)
  | some (p, .sl 0 0, some (e', r')) => if e' = e ∧ e < 1000000 ∧ r'.size = r.size ∧ r'.flat = true then some (p, ⟨.sl d (g + 1), [], [(d, .row (g + 1) e r')]⟩) else none
  | _ => none
theorem ap_some (d g e e' : Nat) (r r' : Row SV) (p : Prop) : apR d g e r (some (p, .sl 0 0, some (e', r'))) = if e' = e ∧ e < 1000000 ∧ r'.size = r.size ∧ r'.flat = true then some (p, ⟨.sl d (g + 1), [], [(d, .row (g + 1) e r')]⟩) else none := by rw [apR]
theorem m_calla (f : Nat) (xs : List SO) (d g : Nat) (rest : List SV) (m : Nat → Cel) : effM Γ lab (.calla f xs) (.sl d g :: rest) m = match m d with
    | .row g' e r => if g = g' ∧ r.flat = true ∧ rest.all SV.flat0 = true then apR d g e r (Γ (f + 1000000) (.rw r :: rest)) else none
    | _ => none := by
  simp only [effM]
  cases m d <;> simp only
  split
  · unfold apR; rfl
  · rfl
/-- A cell of a row of whole numbers. -/
theorem pv_map (k : IntKind) (l : List Int) (o : Nat) : partV (l.map (SV.int k)) o none = if o < l.length then some (.int k (l.getD o 0)) else none := by
  simp only [partV, List.getElem?_map]
  by_cases h : o < l.length
  · simp [h, SV.one, List.getD]
  · simp [h]
theorem gp_tab {g : Nat} {k : IntKind} {l : List Int} (h : glbAt g = some (l.map (SV.int k))) (o : Nat) : gpK s dst K none g o = if o < l.length then K (s.put dst (.int k (l.getD o 0))) else False := by
  unfold gpK
  simp only [h, pv_map]
  by_cases ho : o < l.length <;> simp [ho]
theorem o_callv (fz : Bool) (x : SO) (xs : List SO) : vcOp Γ lab dst (.callv fz x xs) s K = match x.ev s with
    | .clo f caps => if Nat.ble 1000000 f = true then False else if ((xs.map (SO.ev s) ++ caps).map (SV.res1 s.mem)).all SV.ok1 then cK s lab dst K fz (xs.map (SO.ev s) ++ caps) (Γ f ((xs.map (SO.ev s) ++ caps).map (SV.res1 s.mem))) else False
    | _ => False := by
  rw [mem_eK _ _ _ _ _ _ rfl]
  simp only [SK.opnds, List.map_cons, effM]
  generalize x.ev s = vx
  cases vx <;> simp only [k_none]
  rename_i f caps
  by_cases h : f < 1000000
  · have h' : ¬ Nat.ble 1000000 f = true := fun hh => by have := Nat.le_of_ble_eq_true hh; omega
    rw [if_pos h, if_neg h', call_cK]
  · have h' : Nat.ble 1000000 f = true := Nat.ble_eq_true_of_le (by omega)
    rw [if_neg h, if_pos h', k_none]
theorem c_none (p : Prop) (r : SV) (fz : Bool) (vs : List SV) : cK s lab dst K fz vs (some (p, r, none)) = (p ∧ (if r.solid then K (s.put dst (r.nm lab)) else if vs.all SV.noPtr1 then (if fz || (vs.flatMap (own1 s.mem)).isEmpty then K ((setL s (vs.flatMap (own1 s.mem))).put dst (r.nm lab)) else False) else False)) := by rw [cK]
theorem c_some (p : Prop) (r : SV) (e : Nat) (row : Row SV) (fz : Bool) (vs : List SV) : cK s lab dst K fz vs (some (p, r, some (e, row))) = (p ∧ (if r.solid && row.flat then (if (s.mem lab).isFresh = true then K ((s.setm lab (.row 0 e row)).put dst (r.nm lab)) else False)
      else if vs.all SV.noPtr1 then (if fz || (vs.flatMap (own1 s.mem)).isEmpty then (if (s.mem lab).isFresh = true then K ((setL (s.setm lab (.row 0 e row)) (vs.flatMap (own1 s.mem))).put dst (r.nm lab)) else False) else False) else False)) := by rw [cK]
theorem v_some (p : Prop) (v : SV) : vK s dst K (some (p, v)) = (p ∧ K (s.put dst v)) := by rw [vK]
end
/-! Loops. -/
/-- What is to be shown at a loop. -/
def LoopG (Γ : Gam) (b : SC) (s : St) (K : SE → St → Prop) : Prop := vc Γ (.loop 0 b) s K
theorem e_loop (Γ : Gam) (k : Nat) (b : SC) (s : St) (K : SE → St → Prop) : vc Γ (.loop k b) s K = LoopG Γ b s K := by unfold LoopG; rw [vc, vc]
theorem loopG_congr {Γ : Gam} {b : SC} {s s' : St} {K : SE → St → Prop} (h : s = s') : LoopG Γ b s K = LoopG Γ b s' K := by rw [h]
theorem loopG_intro {Γ : Gam} {b : SC} {s : St} {K : SE → St → Prop} {ι : Type} (F : ι → List (Nat × SV)) (M : ι → List (Nat × Cel)) (I : ι → Prop) (μ : ι → Nat)
    (h0 : ∃ i, I i ∧ listsOk (F i) (M i) = true ∧ frIn s (M i) (F i) ∧ memIn s (M i) (M i))
    (h : ∀ i, I i → vc Γ b (St.of (F i) (M i)) fun e s' => match e with
      | .normal => ∃ j, (I j ∧ μ j < μ i) ∧ listsOk (F j) (M j) = true ∧ frIn s' (M j) (F j) ∧ memIn s' (M j) (M j)
      | .exit i => K (.exit i) s'
      | .ret => K .ret s') : LoopG Γ b s K := by
  unfold LoopG
  rw [vc]
  exact ⟨ι, F, M, I, μ, h0, h⟩
/-! What may stand for what. -/
section
variable (s : St) (M : List (Nat × Cel))
theorem f_nil : frIn s M [] = True := by rw [frIn]
theorem f_cons (t : Nat) (v : SV) (r : List (Nat × SV)) : frIn s M ((t, v) :: r) = (fit1 s M (s.fr t) v ∧ frIn s M r) := by rw [frIn]
theorem n_nil : memIn s M [] = True := by rw [memIn]
theorem n_cons (d : Nat) (c : Cel) (r : List (Nat × Cel)) : memIn s M ((d, c) :: r) = (fitC s M (s.mem d) c ∧ memIn s M r) := by rw [memIn]
theorem f_agg (xs ys : List SV) : fit1 s M (.agg xs) (.agg ys) = fitL s M xs ys := by simp [fit1]
theorem f_int (x : SV) (k : IntKind) (a : Int) : fit1 s M x (.int k a) = (x = .int k a) := by simp [fit1, fit0]
theorem f_bool (x : SV) (a : Bool) : fit1 s M x (.bool a) = (x = .bool a) := by simp [fit1, fit0]
theorem f_str (x : SV) (a : List UInt8) : fit1 s M x (.str a) = (x = .str a) := by simp [fit1, fit0]
theorem f_nilv (x : SV) : fit1 s M x .nil = (x = .nil) := by simp [fit1, fit0]
theorem f_sl (x : SV) (d g : Nat) : fit1 s M x (.sl d g) = (x = .sl d g) := by simp [fit1, fit0]
theorem f_ptr (x : SV) (d o : Nat) : fit1 s M x (.ptr d o) = (x = .ptr d o) := by simp [fit1, fit0]
theorem f_gp (x : SV) (d o : Nat) : fit1 s M x (.gp d o) = (x = .gp d o) := by simp [fit1, fit0]
theorem f_fz (x : SV) (cs : List SV) : fit1 s M x (.fz cs) = (x = .fz cs) := by simp [fit1, fit0]
theorem f_clo (x : SV) (f : Nat) (cs : List SV) : fit1 s M x (.clo f cs) = (x = .clo f cs) := by simp [fit1, fit0]
theorem f_tup (x : SV) (cs : List SV) : fit1 s M x (.tup cs) = (x = .tup cs) := by simp [fit1, fit0]
theorem f_elem (x : SV) (d g n i o : Nat) : fit1 s M x (.elem d g n i o) = (x = .elem d g n i o) := by simp [fit1, fit0]
theorem f_unk (x : SV) : fit1 s M x .unk = True := by simp [fit1, fit0]
theorem f_rw (r r' : Row SV) : fit1 s M (.rw r) (.rw r') = (r = r') := by simp [fit1, fit0]
theorem f_nrw (r : Row SV) : fit1 s M .nil (.rw r) = (r.len = 0) := by simp [fit1, fit0]
theorem f_srw (d g : Nat) (r : Row SV) : fit1 s M (.sl d g) (.rw r) = (hasN M d = false ∧ rowAt s.mem (.sl d g) = some r ∧ labsR r = []) := by simp [fit1, fit0]
theorem g_nil : fitL s M [] [] = True := by rw [fitL]
theorem g_cons (x y : SV) (xs ys : List SV) : fitL s M (x :: xs) (y :: ys) = (fit0 s M x y ∧ fitL s M xs ys) := by rw [fitL]
theorem g_int (x : SV) (k : IntKind) (a : Int) : fit0 s M x (.int k a) = (x = .int k a) := by simp [fit0]
theorem g_bool (x : SV) (a : Bool) : fit0 s M x (.bool a) = (x = .bool a) := by simp [fit0]
theorem g_str (x : SV) (a : List UInt8) : fit0 s M x (.str a) = (x = .str a) := by simp [fit0]
theorem g_nilv (x : SV) : fit0 s M x .nil = (x = .nil) := by simp [fit0]
theorem g_sl (x : SV) (d g : Nat) : fit0 s M x (.sl d g) = (x = .sl d g) := by simp [fit0]
theorem g_ptr (x : SV) (d o : Nat) : fit0 s M x (.ptr d o) = (x = .ptr d o) := by simp [fit0]
theorem g_gp (x : SV) (d o : Nat) : fit0 s M x (.gp d o) = (x = .gp d o) := by simp [fit0]
theorem g_fz (x : SV) (cs : List SV) : fit0 s M x (.fz cs) = (x = .fz cs) := by simp [fit0]
theorem g_clo (x : SV) (f : Nat) (cs : List SV) : fit0 s M x (.clo f cs) = (x = .clo f cs) := by simp [fit0]
theorem g_unk (x : SV) : fit0 s M x .unk = True := by simp [fit0]
theorem g_rw (r r' : Row SV) : fit0 s M (.rw r) (.rw r') = (r = r') := by simp [fit0]
theorem g_nrw (r : Row SV) : fit0 s M .nil (.rw r) = (r.len = 0) := by simp [fit0]
theorem g_srw (d g : Nat) (r : Row SV) : fit0 s M (.sl d g) (.rw r) = (hasN M d = false ∧ rowAt s.mem (.sl d g) = some r ∧ labsR r = []) := by simp [fit0]
theorem c_var (T T' : Nat) (xs ys : List SV) : fitC s M (.var T xs) (.var T' ys) = (T = T' ∧ fitL s M xs ys) := by simp [fitC]
theorem c_row (x : Cel) (g e : Nat) (r : Row SV) : fitC s M x (.row g e r) = (x = .row g e r) := by simp [fitC]
theorem c_frow (x : Cel) (g : Nat) (r : Row SV) : fitC s M x (.frow g r) = (x = .frow g r) := by simp [fitC]
end
theorem r_sl (m : Nat → Cel) (d g : Nat) : rowAt m (.sl d g) = match m d with
    | .row g' _ r => if g = g' then some r else none
    | .frow g' r => if g = g' then some r else none
    | _ => none := by simp only [rowAt]; cases m d <;> rfl
theorem r_nn (m : Nat → Cel) (r : Row SV) : rowAt m (.nn r) = some r := by rw [rowAt]
theorem r_rw (m : Nat → Cel) (r : Row SV) : rowAt m (.rw r) = some r := by rw [rowAt]
theorem inj_bool (a b : Bool) : (SV.bool a = SV.bool b) = (a = b) := by simp
theorem inj_str (a b : List UInt8) : (SV.str a = SV.str b) = (a = b) := by simp
theorem inj_ints (k : IntKind) (a b : List Int) : ((Row.ints k a : Row SV) = Row.ints k b) = (a = b) := by simp
theorem inj_bools (a b : List Bool) : ((Row.bools a : Row SV) = Row.bools b) = (a = b) := by simp
theorem inj_row (g e g' e' : Nat) (r r' : Row SV) : (Cel.row g e r = Cel.row g' e' r') = (g = g' ∧ e = e' ∧ r = r') := by simp
theorem inj_sl (d g d' g' : Nat) : (SV.sl d g = SV.sl d' g') = (d = d' ∧ g = g') := by simp
theorem ret_fl (ow : Option Nat) (R : SV → Option (Nat × Row SV) → Prop) (rs : List SR) (fr : List (Nat × SV)) (m : Nat → Cel) : vcRet ow R rs (St.fl fr m) = match resAll (St.fl fr m) ow rs with
    | some (v, o) => R v o
    | none => False := by unfold vcRet; rfl
/-! What is read of a state. -/
theorem fr_put (s : St) (d : Nat) (v : SV) (t : Nat) : (s.put (some d) v).fr t = if t = d then v else s.fr t := rfl
theorem put_none (s : St) (v : SV) : (s.put none v) = s := rfl
theorem mem_put' (s : St) (d : Nat) (v : SV) : (s.put (some d) v).mem = s.mem := rfl
theorem fr_setm (s : St) (d : Nat) (c : Cel) (t : Nat) : (s.setm d c).fr t = s.fr t := rfl
theorem mem_setm (s : St) (d : Nat) (c : Cel) : (s.setm d c).mem = setM s.mem d c := rfl
theorem setM_at (m : Nat → Cel) (d : Nat) (c : Cel) (t : Nat) : setM m d c t = if t = d then c else m t := rfl
theorem fr_fl (fr : List (Nat × SV)) (m : Nat → Cel) (t : Nat) : (St.fl fr m).fr t = (lookN fr t).getD .unk := rfl
theorem mem_fl (fr : List (Nat × SV)) (m : Nat → Cel) : (St.fl fr m).mem = m := rfl
theorem memOf_at (l : List (Nat × Cel)) (t : Nat) : memOf l t = (lookN l t).getD .fresh := rfl
theorem inj_int (k : IntKind) (a b : Int) : (SV.int k a = SV.int k b) = (a = b) := by simp
/-! The operations on integers. -/
section
variable (k j : IntKind) (a b : Int)
theorem b_add : binV .add (.int k a) (.int k b) = some (True, .int k (k.wrap (a + b))) := by simp [binV, binI]
theorem b_sub : binV .sub (.int k a) (.int k b) = some (True, .int k (k.wrap (a - b))) := by simp [binV, binI]
theorem b_mul : binV .mul (.int k a) (.int k b) = some (True, .int k (k.wrap (a * b))) := by simp [binV, binI]
theorem b_quo : binV .quo (.int k a) (.int k b) = some (b ≠ 0, .int k (k.wrap (a.tdiv b))) := by simp [binV, binI]
theorem b_rem : binV .rem (.int k a) (.int k b) = some (b ≠ 0, .int k (a.tmod b)) := by simp [binV, binI]
theorem b_and : binV .and (.int k a) (.int k b) = some (True, .int k (bits .and k a b)) := by simp [binV, binI]
theorem b_or : binV .or (.int k a) (.int k b) = some (True, .int k (bits .or k a b)) := by simp [binV, binI]
theorem b_xor : binV .xor (.int k a) (.int k b) = some (True, .int k (bits .xor k a b)) := by simp [binV, binI]
theorem b_andNot : binV .andNot (.int k a) (.int k b) = some (True, .int k (bits .andNot k a b)) := by simp [binV, binI]
theorem b_eql : binV .eql (.int k a) (.int k b) = some (True, .bool (a == b)) := by simp [binV, binI]
theorem b_neq : binV .neq (.int k a) (.int k b) = some (True, .bool (a != b)) := by simp [binV, binI]
theorem b_lss : binV .lss (.int k a) (.int k b) = some (True, .bool (decide (a < b))) := by simp [binV, binI]
theorem b_leq : binV .leq (.int k a) (.int k b) = some (True, .bool (decide (a ≤ b))) := by simp [binV, binI]
theorem b_gtr : binV .gtr (.int k a) (.int k b) = some (True, .bool (decide (b < a))) := by simp [binV, binI]
theorem b_geq : binV .geq (.int k a) (.int k b) = some (True, .bool (decide (b ≤ a))) := by simp [binV, binI]
theorem b_shl : binV .shl (.int k a) (.int j b) = some (0 ≤ b, .int k (k.wrap (a * 2 ^ (min b.toNat k.bits)))) := by simp [binV]
theorem b_shr : binV .shr (.int k a) (.int j b) = some (0 ≤ b, .int k (a.fdiv (2 ^ (min b.toNat k.bits)))) := by simp [binV]
end
end Go.Proofs.Ytgklfolmlcfjgaa.Y
