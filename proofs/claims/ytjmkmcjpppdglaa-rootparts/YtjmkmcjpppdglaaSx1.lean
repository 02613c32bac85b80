/- A symbolic walk over the model's code: the data that it goes by, the code written anew in a short form, what is to be shown of it. Nothing here is of any one program. -/
import Derived.Orders
import Derived.Below
import Derived.Laws.StructEq
import Derived.Laws.OwnMore
namespace Go.Proofs.Ytjmkmcjpppdglaa.Sx
open Go.RowKit

/-- What a slice holds. -/
inductive Row where
  | ints (k : IntKind) (l : List Int)
  | bools (l : List Bool)
  | strs (l : List (List UInt8))
  deriving Inhabited

/-- A value as the walk knows it: 'ptr d o' is the address of cell o of the variable with the label d, 'sl d' the slice with the label d, 'elem d o' the address of its cell o; 'rw r' a slice of which only what it holds is said. -/
inductive SV where
  | unk
  | int (k : IntKind) (n : Int)
  | bool (b : Bool)
  | str (s : List UInt8)
  | nil
  | func (f : Nat)
  | sl (d : Nat)
  | rw (r : Row)
  | ptr (d o : Nat)
  | elem (d o : Nat)
  | agg (cs : List SV)
  | tup (vs : List SV)
  deriving Inhabited

/-- What lies behind a label. -/
inductive Cel where
  | fresh
  | dead
  | var (T : Nat) (cs : List SV)
  | row (own : Bool) (e : Nat) (r : Row)
  deriving Inhabited

structure St where
  fr : Nat → SV
  mem : Nat → Cel

inductive SO where
  | t (n : Nat)
  | c (v : SV)
  deriving Inhabited

/-- The operations. -/
inductive SK where
  | mov (x : SO)
  | pick (c a b : SO)
  | box (T : Nat) (x : SO)
  | alloc (T : Nat) (z : List SV)
  | build (z : List SV) (ps : List (Nat × Nat × SO))
  | load (n : Option Nat) (x : SO) (L : Option Nat)
  | store (n : Nat) (x v : SO) (L : Option Nat)
  | bin (op : BinOp) (x y : SO)
  | eqb (neg : Bool) (x y : SO)
  | eqs (neg : Bool) (offs : List (Nat × Nat)) (x y : SO)
  | un (op : UnOp) (x : SO)
  | conv (k : IntKind) (x : SO)
  | faddr (off : Nat) (x : SO)
  | fld (off : Nat) (n : Option Nat) (x : SO)
  | ext (x : SO) (i : Nat)
  | mx (max : Bool) (x y : SO)
  | call (f : Nat) (args : List SO)
  deriving Inhabited

structure SOp where
  dst : Option Nat
  g : Option (Nat × Bool)
  k : SK
  deriving Inhabited

inductive SC where
  | skip
  | reg (id : Nat) (ops : List SOp) (live : List Nat)
  | seq (a b : SC)
  | cond (c : SO) (a b : SC)
  | block (id : Nat) (b : SC)
  | loop (k : Nat) (b : SC)
  | exit (id : Nat)
  | ret
  deriving Inhabited

/-! ### From the model's code -/

def svOf0 : Value → Option SV
  | .int k n => some (.int k n)
  | .bool b => some (.bool b)
  | .string s => some (.str s.data.toList)
  | .slice none 0 0 => some .nil
  | _ => none

def svOf : Value → Option SV
  | .agg cs => (cs.toList.mapM svOf0).map .agg
  | v => svOf0 v

def cellsSV (v : Value) : Option (List SV) := v.cells.toList.mapM svOf0

def cO : Operand → Option SO
  | .tmp t => some (.t t)
  | .const v => (svOf v).map .c
  | .func f => some (.c (.func f))
  | .global _ => none

def isAggD : TypeDesc → Bool
  | .struct _ | .array _ _ => true
  | _ => false

def aggN (P : Program) (t : TypeId) : Option (Option Nat) :=
  match P.underlying t, P.info? t with
  | some d, some i => some (if isAggD d then some i.size else none)
  | _, _ => none

def fieldTag (P : Program) (f : Field) : Option (Nat × Nat) :=
  if f.name = "_" then none else
  match P.underlying f.type with
  | some (.int _) => some (f.offset, 0)
  | some .bool => some (f.offset, 1)
  | some .string => some (f.offset, 2)
  | _ => none

def place (P : Program) (fs : Array Field) (i : Nat) : Option (Nat × Nat) :=
  fs[i]?.bind fun f => (P.info? f.type).map fun j => (f.offset, j.size)

def cPart (P : Program) (fs : Array Field) (p : Nat × Operand) : Option (Nat × Nat × SO) :=
  match place P fs p.1, cO p.2 with
  | some (o, n), some x => some (o, n, x)
  | _, _ => none

def cOp (P : Program) (o : Oper) : Option SK :=
  match o.op with
  | .move x | .assign x => (cO x).map .mov
  | .pick c a b => match cO c, cO a, cO b with
    | some c, some a, some b => some (.pick c a b)
    | _, _, _ => none
  | .box T x => (cO x).map (.box T)
  | .alloc T => match ((P.info? T).bind (·.zero)).bind cellsSV with
    | some z => some (.alloc T z)
    | none => none
  | .build T ps => match P.underlying T, ((P.info? T).bind (·.zero)).bind cellsSV with
    | some (.struct fs), some z => if (fs.toList.all fun f => (P.info? f.type).isSome) then (ps.toList.mapM (cPart P fs)).map (.build z) else none
    | _, _ => none
  | .load T x => match aggN P T, cO x with
    | some n, some x => some (.load n x none)
    | _, _ => none
  | .store T x v => match P.info? T, cO x, cO v with
    | some i, some x, some v => some (.store i.size x v none)
    | _, _, _ => none
  | .binOp op T x y _ => match P.underlying T, cO x, cO y with
    | some (.int _), some x, some y => some (.bin op x y)
    | some .bool, some x, some y => match op with
      | .eql => some (.eqb false x y)
      | .neq => some (.eqb true x y)
      | _ => none
    | some (.struct fs), some x, some y =>
      match fs.toList.mapM (fieldTag P), !P.stoodInHeld T && !P.eqGuardType P.depth T, op with
      | some os, true, .eql => some (.eqs false os x y)
      | some os, true, .neq => some (.eqs true os x y)
      | _, _, _ => none
    | _, _, _ => none
  | .unOp op _ x => (cO x).map (.un op)
  | .convert src dst x => match P.underlying src, P.underlying dst, cO x with
    | some (.int _), some (.int k), some x => some (.conv k x)
    | _, _, _ => none
  | .fieldAddr T x f => match P.underlying T, cO x with
    | some (.struct fs), some x => match place P fs f with
      | some (o, _ + 1) => some (.faddr o x)
      | _ => none
    | _, _ => none
  | .field T x f => match P.underlying T, cO x with
    | some (.struct fs), some x => match fs[f]? with
      | some g => (aggN P g.type).map fun n => .fld g.offset n x
      | none => none
    | _, _ => none
  | .extract x i => (cO x).map fun x => .ext x i
  | .call c => match c.callee with
    | .value (.func f) => match P.funcs[f]?, c.args.toList.mapM cO with
      | some fn, some xs => if fn.name != "runtime.NumGoroutine" && fn.body.isSome then some (.call f xs) else none
      | _, _ => none
    | .builtin .max => match c.args.toList.mapM cO with
      | some [x, y] => some (.mx true x y)
      | _ => none
    | .builtin .min => match c.args.toList.mapM cO with
      | some [x, y] => some (.mx false x y)
      | _ => none
    | _ => none
  | _ => none

/-- Which operations leave memory alone and do not look at it; which write it. -/
def SK.pure : SK → Bool
  | .mov _ | .pick .. | .build .. | .bin .. | .eqb .. | .eqs .. | .un .. | .conv .. | .faddr .. | .fld .. | .ext .. | .mx .. => true
  | _ => false
def SK.writes : SK → Bool
  | .store .. => true
  | _ => false
def SK.opnds : SK → List SO
  | .mov x | .box _ x | .load _ x _ | .un _ x | .conv _ x | .faddr _ x | .fld _ _ x | .ext x _ => [x]
  | .pick c a b => [c, a, b]
  | .alloc .. => []
  | .build _ ps => ps.map (·.2.2)
  | .store _ x v _ => [x, v]
  | .bin _ x y | .eqb _ x y | .eqs _ _ x y | .mx _ x y => [x, y]
  | .call _ xs => xs

def SOp.looks (o : SOp) : List Nat :=
  (o.k.opnds.filterMap fun | .t n => some n | _ => none) ++ (o.g.map (·.1)).toList
def SOp.apart (x y : SOp) : Bool :=
  (match x.dst with | some d => !y.looks.contains d && y.dst != some d | none => true) &&
  (match y.dst with | some d => !x.looks.contains d | none => true)
def SV.noLab0 : SV → Bool
  | .sl _ | .ptr .. | .elem .. => false
  | _ => true
def SV.noLab : SV → Bool
  | .agg cs => cs.all SV.noLab0
  | .tup _ => false
  | v => v.noLab0
def SOp.closed (x : SOp) : Bool := x.k.opnds.all fun | .c v => v.noLab | _ => true
/-- A load and a store of two variables. -/
def SK.twoVars : SK → SK → Bool
  | .load _ _ (some a), .store _ _ _ (some b) => a != b
  | .store _ _ _ (some b), .load _ _ (some a) => a != b
  | _, _ => false
/-- Two operations of which it makes no difference which comes first. -/
def SOp.comm (x y : SOp) : Bool := x.apart y && x.closed && y.closed && ((!x.k.writes && !y.k.writes) || (x.k.writes && y.k.pure) || (x.k.pure && y.k.writes) || x.k.twoVars y.k)

def SK.ann (L : Option Nat) : SK → SK
  | .load n x _ => .load n x L
  | .store n x v _ => .store n x v L
  | k => k
def SK.bare : SK → Bool
  | .load _ _ (some _) | .store _ _ _ (some _) => false
  | _ => true
/-- The label of the variable whose address lies in a slot: its only writer makes the variable ('vs': slot, label), or takes a part's address (in this region). -/
def slotLab (vs : List (Nat × Nat)) (ops : Array Oper) (t : Nat) : Option Nat :=
  match vs.find? (fun p => p.1 == t) with
  | some p => some p.2
  | none => ops.toList.findSome? fun o => if o.dst == some t then (match o.op with
    | .fieldAddr _ (.tmp u) _ => (vs.find? fun p => p.1 == u).map (·.2)
    | _ => none) else none
def opLab (vs : List (Nat × Nat)) (ops : Array Oper) (o : Oper) : Option Nat := match o.op with
  | .load _ (.tmp t) => slotLab vs ops t
  | .store _ (.tmp t) _ => slotLab vs ops t
  | _ => none

def cOper (P : Program) (vs : List (Nat × Nat)) (ops : Array Oper) (o : Oper) : Option SOp :=
  match cOp P o with
  | none => none
  | some k => if !k.bare then none else match o.guard with
    | none => some ⟨o.dst, none, k.ann (opLab vs ops o)⟩
    | some (j, want) => match (ops[j]?).bind (·.dst) with
      | some g => some ⟨o.dst, some (g, want), k.ann (opLab vs ops o)⟩
      | none => none

/-- Number i waits for number j. -/
def waits (ops : Array Oper) (i j : Nat) : Bool := match ops[i]? with
  | some o => o.after.any fun e => Region.binds .any e && e.on == j
  | none => false
/-- .. or for one that does, or for one that waits for such a one. -/
def waits2 (ops : Array Oper) (i j : Nat) : Bool := waits ops i j || (List.range ops.size).any fun k => waits ops i k && waits ops k j
def waits3 (ops : Array Oper) (i j : Nat) : Bool := waits2 ops i j || (List.range ops.size).any fun k => waits ops i k && waits2 ops k j
/-- The order of the text serves for every order: whoever stands ahead and is not waited for may as well come later. -/
def ordersOk (ops : Array Oper) (ss : List SOp) : Bool :=
  (List.range ops.size).all fun i => match ops[i]?, ss[i]? with
    | some o, some si => (o.after.all fun e => !Region.binds .any e || decide (e.on < i)) &&
      (List.range i).all fun j => (match ss[j]? with | some sj => sj.comm si | none => false) || waits3 ops i j
    | _, _ => false

def cRegion (P : Program) (n : Nat) (vs : List (Nat × Nat)) (ops : Array Oper) (draw : Bool) : Option (List SOp) :=
  match ops.toList.mapM (cOper P vs ops) with
  | none => none
  | some ss => if (ss.all fun s => match s.dst with | some d => decide (d < n) | none => true) && (!draw || ordersOk ops ss) then some ss else none

/-- The first region's number. -/
def SC.first : SC → Nat
  | .reg id _ _ => id
  | .seq a _ => a.first
  | .cond _ a _ => a.first
  | .block _ b => b.first
  | .loop _ b => b.first
  | _ => 0

def cCode (P : Program) (n : Nat) (vs : List (Nat × Nat)) (G : List Nat) : Code → Option SC
  | .skip => some .skip
  | .label _ => some .skip
  | .region id ops draw => (cRegion P n vs ops draw).map fun ss => .reg id ss G
  | .seq a b => match cCode P n vs G a, cCode P n vs G b with
    | some a, some b => some (.seq a b)
    | _, _ => none
  | .cond c a b => match cO c, cCode P n vs G a, cCode P n vs G b with
    | some c, some a, some b => some (.cond c a b)
    | _, _, _ => none
  | .block id b => (cCode P n vs G b).map (.block id)
  | .loop b => (cCode P n vs G b).map fun s => .loop s.first s
  | .exit id => some (.exit id)
  | .ret => some .ret
  | _ => none

def SO.slot : SO → List Nat
  | .t n => [n]
  | _ => []
/-- The slots that a piece of code reads and writes, region by region (what a condition reads stands as a region of its own). -/
def SC.uses : SC → List (List Nat × List Nat)
  | .reg _ ops _ => [(ops.flatMap SOp.looks, ops.filterMap (·.dst))]
  | .seq a b => a.uses ++ b.uses
  | .cond c a b => (c.slot, []) :: (a.uses ++ b.uses)
  | .block _ b => b.uses
  | .loop _ b => b.uses
  | _ => []
/-- The slots that are read in another region than the one that wrote them. -/
def liveOf (us : List (List Nat × List Nat)) (res : List Nat) (n : Nat) : List Nat :=
  (List.range n).filter fun t => res.contains t || us.zipIdx.any fun (u, i) => u.1.contains t && (us.zipIdx.any fun (v, j) => i != j && v.2.contains t) || (u.1.contains t && !us.any fun v => v.2.contains t)

inductive SR where
  | t (n : Nat)
  | cell (n : Nat) (k : Option Nat)
  deriving Inhabited

structure SF where
  n : Nat
  res : List SR
  body : SC
  deriving Inhabited

def cRes (P : Program) : ResultVar → Option SR
  | .tmp t => some (.t t)
  | .cell a t => (aggN P t).map (.cell a)

/-- Who writes which slot: slot, label, whether it makes a variable. -/
def wrtOps (id : Nat) : Nat → List Oper → List (Nat × Nat × Bool)
  | _, [] => []
  | i, o :: l => (match o.dst with
    | some d => [(d, 1000 * id + i, match o.op with | .alloc _ | .box _ _ => true | _ => false)]
    | none => []) ++ wrtOps id (i + 1) l
def wrtOf : Code → List (Nat × Nat × Bool)
  | .region id ops _ => wrtOps id 0 ops.toList
  | .seq a b => wrtOf a ++ wrtOf b
  | .cond _ a b => wrtOf a ++ wrtOf b
  | .block _ b => wrtOf b
  | .loop b => wrtOf b
  | _ => []
def varsOf (ws : List (Nat × Nat × Bool)) : List (Nat × Nat) :=
  ws.filterMap fun w => if w.2.2 && (ws.filter fun v => v.1 == w.1).length == 1 then some (w.1, w.2.1) else none

def SR.slot : SR → Nat
  | .t n => n
  | .cell n _ => n

def cFunc (P : Program) (f : Nat) : Option SF :=
  match P.funcs[f]? with
  | some fn => match fn.body with
    | some c => match cCode P fn.ntmps (varsOf (wrtOf c)) [] c, fn.results.toList.mapM (cRes P) with
      | some b0, some r => match cCode P fn.ntmps (varsOf (wrtOf c)) (liveOf b0.uses (r.map SR.slot) fn.ntmps) c with
        | some b => some ⟨fn.ntmps, r, b⟩
        | none => none
      | _, _ => none
    | none => none
  | none => none

/-! ### What is to be shown -/

def St.put (s : St) (d : Option Nat) (v : SV) : St :=
  match d with
  | some d => { s with fr := fun t => if t = d then v else s.fr t }
  | none => s
def setM (m : Nat → Cel) (d : Nat) (c : Cel) : Nat → Cel := fun t => if t = d then c else m t
def St.setm (s : St) (d : Nat) (c : Cel) : St := { s with mem := setM s.mem d c }
def SO.ev (s : St) : SO → SV
  | .t n => s.fr n
  | .c v => v

/-- The labels that a value names. -/
def SV.lab0 : SV → List Nat
  | .sl d | .ptr d _ | .elem d _ => [d]
  | _ => []
def SV.lab1 : SV → List Nat
  | .agg cs => cs.flatMap SV.lab0
  | v => v.lab0
def SV.labs : SV → List Nat
  | .tup vs => vs.flatMap SV.lab1
  | v => v.lab1

/-- A value of one cell. -/
def SV.one : SV → Bool
  | .int .. | .bool _ | .str _ | .nil | .sl _ | .ptr .. => true
  | _ => false
def SV.cells : SV → List SV
  | .agg cs => cs
  | v => [v]

def binI (op : BinOp) (k : IntKind) (a b : Int) : Option (Prop × SV) :=
  match op with
  | .add => some (True, .int k (k.wrap (a + b)))
  | .sub => some (True, .int k (k.wrap (a - b)))
  | .mul => some (True, .int k (k.wrap (a * b)))
  | .quo => some (b ≠ 0, .int k (k.wrap (a.tdiv b)))
  | .rem => some (b ≠ 0, .int k (a.tmod b))
  | .and => some (True, .int k (bits .and k a b))
  | .or => some (True, .int k (bits .or k a b))
  | .xor => some (True, .int k (bits .xor k a b))
  | .andNot => some (True, .int k (bits .andNot k a b))
  | .eql => some (True, .bool (a == b))
  | .neq => some (True, .bool (a != b))
  | .lss => some (True, .bool (decide (a < b)))
  | .leq => some (True, .bool (decide (a ≤ b)))
  | .gtr => some (True, .bool (decide (b < a)))
  | .geq => some (True, .bool (decide (b ≤ a)))
  | _ => none

def binV (op : BinOp) (x y : SV) : Option (Prop × SV) :=
  match op, x, y with
  | .shl, .int k a, .int _ b => some (0 ≤ b, .int k (k.wrap (a * 2 ^ (min b.toNat k.bits))))
  | .shr, .int k a, .int _ b => some (0 ≤ b, .int k (a.fdiv (2 ^ (min b.toNat k.bits))))
  | op, .int k a, .int k' b => if k = k' then binI op k a b else none
  | _, _, _ => none

def cellEq (t : Nat) (x y : SV) : Option Bool :=
  match t, x, y with
  | 0, .int k a, .int k' b => if k = k' then some (a == b) else none
  | 1, .bool a, .bool b => some (a == b)
  | 2, .str a, .str b => some (a == b)
  | _, _, _ => none
def eqCells (xs ys : List SV) : List (Nat × Nat) → Option Bool
  | [] => some true
  | (o, t) :: os => match xs[o]?, ys[o]? with
    | some x, some y => match cellEq t x y, eqCells xs ys os with
      | some a, some b => some (a && b)
      | _, _ => none
    | _, _ => none

/-- cells from o on are those. -/
def setAt (cs : List SV) (o : Nat) : List SV → List SV
  | [] => cs
  | v :: vs => setAt (cs.set o v) (o + 1) vs

def fillP (z : List SV) : List (Nat × Nat) → List SV → Option (List SV)
  | [], [] => some z
  | (o, n) :: ps, v :: vs => if v.cells.length = n ∧ o + n ≤ z.length ∧ v.cells.all SV.one then fillP (setAt z o v.cells) ps vs else none
  | _, _ => none

def partV (cs : List SV) (off : Nat) : Option Nat → Option SV
  | none => match cs[off]? with
    | some v => if v.one then some v else none
    | none => none
  | some n => if off + n ≤ cs.length then some (.agg ((cs.drop off).take n)) else none

def effP (k : SK) (vs : List SV) : Option (Prop × SV) :=
  match k, vs with
  | .mov _, [v] => some (True, v)
  | .pick .., [.bool c, a, b] => some (True, if c then a else b)
  | .build z ps, vs => match fillP z (ps.map fun p => (p.1, p.2.1)) vs with
    | some cs => some (True, .agg cs)
    | none => none
  | .bin op _ _, [x, y] => binV op x y
  | .eqb neg _ _, [.bool a, .bool b] => some (True, .bool (if neg then !(a == b) else a == b))
  | .eqs neg offs _ _, [.agg xs, .agg ys] => match eqCells xs ys offs with
    | some b => some (True, .bool (if neg then !b else b))
    | none => none
  | .mx m _ _, [.int k a, .int k' b] => if k = k' then some (True, .int k (if m then (if b > a then b else a) else (if b < a then b else a))) else none
  | .un .neg _, [.int k a] => some (True, .int k (k.wrap (0 - a)))
  | .un .not _, [.bool b] => some (True, .bool (!b))
  | .conv k _, [.int _ a] => some (True, .int k (k.wrap a))
  | .faddr off _, [.ptr d o] => some (True, .ptr d (o + off))
  | .fld off n _, [.agg cs] => (partV cs off n).map fun v => (True, v)
  | .ext _ i, [.tup vs] => match vs[i]? with
    | some (.tup _) => none
    | some v => some (True, v)
    | none => none
  | _, _ => none

inductive Eff where
  | val (v : SV)
  | newvar (T : Nat) (cs : List SV)
  | setvar (d T : Nat) (cs : List SV)

/-- A value with the rows of its slices in their place. -/
def SV.res0 (m : Nat → Cel) : SV → SV
  | .sl d => match m d with
    | .row _ _ r => .rw r
    | _ => .unk
  | .ptr .. | .elem .. | .rw _ | .func _ => .unk
  | v => v
def SV.res1 (m : Nat → Cel) : SV → SV
  | .agg cs => .agg (cs.map (SV.res0 m))
  | v => v.res0 m
def SV.res (m : Nat → Cel) : SV → SV
  | .tup vs => .tup (vs.map (SV.res1 m))
  | v => v.res1 m

/-- What may be handed to a function. -/
def SV.arg0 : SV → Bool
  | .int .. | .bool _ | .str _ | .nil | .rw _ => true
  | _ => false
def SV.arg1 : SV → Bool
  | .agg cs => cs.all SV.arg0
  | v => v.arg0

abbrev Gam := Nat → List SV → Option (Prop × SV)

/-- The label that the text foretells. -/
def labOk (L : Option Nat) (d : Nat) : Bool := match L with
  | none => true
  | some l => l == d

def effM (Γ : Gam) (k : SK) (vs : List SV) (m : Nat → Cel) : Option (Prop × Eff) :=
  match k, vs with
  | .box T _, [v] => if v.cells.all SV.one then some (True, .newvar T v.cells) else none
  | .alloc T z, [] => some (True, .newvar T z)
  | .load n _ L, [.ptr d o] => if labOk L d then (match m d with
    | .var _ cs => (partV cs o n).map fun v => (True, .val v)
    | _ => none) else none
  | .store n _ _ L, [.ptr d o, v] => if labOk L d then (match m d with
    | .var T cs => if v.cells.length = n ∧ o + n ≤ cs.length ∧ v.cells.all SV.one then some (True, .setvar d T (setAt cs o v.cells)) else none
    | _ => none) else none
  | .call f _, vs => if (vs.map (SV.res1 m)).all SV.arg1 then (Γ f (vs.map (SV.res1 m))).map fun r => (r.1, .val r.2) else none
  | _, _ => none

def eff (Γ : Gam) (k : SK) (vs : List SV) (m : Nat → Cel) : Option (Prop × Eff) :=
  if k.pure then (effP k vs).map fun r => (r.1, .val r.2) else effM Γ k vs m

def Cel.isFresh : Cel → Bool
  | .fresh => true
  | _ => false

def app (lab : Nat) (dst : Option Nat) (s : St) : Eff → Option St
  | .val v => some (s.put dst v)
  | .newvar T cs => if (s.mem lab).isFresh then some ((s.setm lab (.var T cs)).put dst (.ptr lab 0)) else none
  | .setvar d T cs => some ((s.setm d (.var T cs)).put dst (.tup []))

def vcOp (Γ : Gam) (lab : Nat) (dst : Option Nat) (k : SK) (s : St) (K : St → Prop) : Prop :=
  match k with
  | .pick c a b => match c.ev s with
    | .bool t => if t = true then K (s.put dst (a.ev s)) else K (s.put dst (b.ev s))
    | _ => False
  | k => match eff Γ k (k.opnds.map (SO.ev s)) s.mem with
    | some (p, e) => p ∧ (match app lab dst s e with
      | some s' => K s'
      | none => False)
    | none => False

def vcOps (Γ : Gam) : List SOp → Nat → St → (St → Prop) → Prop
  | [], _, s, K => K s
  | ⟨dst, none, k⟩ :: rest, i, s, K => vcOp Γ i dst k s fun s' => vcOps Γ rest (i + 1) s' K
  | ⟨dst, some (g, want), k⟩ :: rest, i, s, K => match s.fr g with
    | .bool b => if b = want then vcOp Γ i dst k (s.put (some g) (.bool want)) fun s' => vcOps Γ rest (i + 1) s' K
        else vcOps Γ rest (i + 1) ((s.put (some g) (.bool (!want))).put dst (.tup [])) K
    | .tup [] => vcOps Γ rest (i + 1) (s.put dst (.tup [])) K
    | _ => False

inductive SE where
  | normal
  | exit (id : Nat)
  | ret

/-- A state that says no more than s does. -/
def lookN {α : Type} : List (Nat × α) → Nat → Option α
  | [], _ => none
  | (k, v) :: r, n => if n = k then some v else lookN r n
def memOf (mem : List (Nat × Cel)) : Nat → Cel := fun d => (lookN mem d).getD .fresh
def St.fl (fr : List (Nat × SV)) (m : Nat → Cel) : St := ⟨fun t => (lookN fr t).getD .unk, m⟩
def St.of (fr : List (Nat × SV)) (mem : List (Nat × Cel)) : St := St.fl fr (memOf mem)
/-- What is still wanted. -/
def getAll (s : St) : List Nat → List (Nat × SV)
  | [] => []
  | t :: l => (t, s.fr t) :: getAll s l
def keepSt (live : List Nat) (s : St) : St := St.fl (getAll s live) s.mem
def hasN {α : Type} (l : List (Nat × α)) (n : Nat) : Bool := (lookN l n).isSome
def listsOk (fr : List (Nat × SV)) (mem : List (Nat × Cel)) : Bool :=
  (fr.all fun p => p.2.labs.all (hasN mem)) &&
  (mem.all fun p => match p.2 with | .var _ cs => cs.all fun c => c.labs.all (hasN mem) | .fresh => false | _ => true)
def frIn (s : St) : List (Nat × SV) → Prop
  | [] => True
  | (t, v) :: r => s.fr t = v ∧ frIn s r
def memIn (s : St) : List (Nat × Cel) → Prop
  | [] => True
  | (d, c) :: r => s.mem d = c ∧ memIn s r

def vc (Γ : Gam) : SC → St → (SE → St → Prop) → Prop
  | .skip, s, K => K .normal s
  | .reg id ops live, s, K => vcOps Γ ops (1000 * id) s fun s' => K .normal (keepSt live s')
  | .seq a b, s, K => vc Γ a s fun e s' => match e with
    | .normal => vc Γ b s' K
    | .exit i => K (.exit i) s'
    | .ret => K .ret s'
  | .cond c a b, s, K => match c.ev s with
    | .bool t => if t = true then vc Γ a s K else vc Γ b s K
    | _ => False
  | .block id b, s, K => vc Γ b s fun e s' => match e with
    | .exit i => if i = id then K .normal s' else K (.exit i) s'
    | .normal => K .normal s'
    | .ret => K .ret s'
  | .loop _ b, s, K => ∃ (ι : Type) (F : ι → List (Nat × SV)) (M : ι → List (Nat × Cel)) (I : ι → Prop) (μ : ι → Nat),
      (∃ i, I i ∧ listsOk (F i) (M i) = true ∧ frIn s (F i) ∧ memIn s (M i)) ∧
      ∀ i, I i → vc Γ b (St.of (F i) (M i)) fun e s' => match e with
        | .normal => ∃ j, (I j ∧ μ j < μ i) ∧ listsOk (F j) (M j) = true ∧ frIn s' (F j) ∧ memIn s' (M j)
        | .exit i => K (.exit i) s'
        | .ret => K .ret s'
  | .exit id, s, K => K (.exit id) s
  | .ret, s, K => K .ret s

/-- The results, at the end. -/
def resV (s : St) : SR → Option SV
  | .t n => some (s.fr n)
  | .cell n k => match s.fr n with
    | .ptr d o => match s.mem d with
      | .var _ cs => partV cs o k
      | _ => none
    | _ => none
def resL (s : St) : List SR → Option (List SV)
  | [] => some []
  | r :: rs => match resV s r, resL s rs with
    | some v, some vs => some (v :: vs)
    | _, _ => none
def resAll (s : St) (rs : List SR) : Option SV :=
  match resL s rs with
  | some vs => if (vs.map (SV.res1 s.mem)).all SV.arg1 then (match vs.map (SV.res1 s.mem) with
    | [v] => some v
    | us => some (.tup us)) else none
  | none => none
def vcRet (R : SV → Prop) (rs : List SR) (s : St) : Prop := match resAll s rs with
  | some v => R v
  | none => False
/-- The arguments in their slots. -/
def entFr : Nat → List SV → List (Nat × SV)
  | _, [] => []
  | k, x :: xs => (k, x) :: entFr (k + 1) xs
/-- The function's claim: with these arguments it hands back a value of which R holds. -/
def vcFun (Γ : Gam) (F : SF) (xs : List SV) (R : SV → Prop) : Prop :=
  vc Γ F.body (St.of (entFr 0 xs) []) fun e s => match e with
    | .exit _ => False
    | .normal => vcRet R F.res s
    | .ret => vcRet R F.res s
end Go.Proofs.Ytjmkmcjpppdglaa.Sx
