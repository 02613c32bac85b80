/- A symbolic walk over the model's code, second form: the data that it goes by, the code written anew in a short form, what is to be shown of it. Nothing here is of any one program. -/
import Derived.Orders
import Derived.Below
import Derived.Laws.StructEq
import Derived.Laws.OwnMore
namespace Go.Proofs.Ytgklfolmlcfjgaa.Y
open Go.RowKit

/-- What a slice holds. -/
inductive Row (α : Type) where
  | ints (k : IntKind) (l : List Int)
  | bools (l : List Bool)
  | strs (l : List (List UInt8))
  | recs (n : Nat) (l : List (List α))

/-- A value as the walk knows it. 'sl d g': the slice that lies behind the label d, in its state g; 'rw r': a slice that nobody writes any more, with what it holds; 'nn r': so, and it is not nil; 'ptr d o': the address of cell o of the variable behind d; 'elem d g n i o': of cell o of element i (n cells each) of the slice behind d; 'prt d g a l': l elements from number a on of the slice of our own behind d, in its state g; 'fz cs': the address of cells that nobody writes any more; 'gp g o': of cell o of the package's variable g; 'clo f cs': a function with what it has caught. -/
inductive SV where
  | unk
  | int (k : IntKind) (n : Int)
  | bool (b : Bool)
  | str (s : List UInt8)
  | nil
  | clo (f : Nat) (cs : List SV)
  | sl (d g : Nat)
  | rw (r : Row SV)
  | nn (r : Row SV)
  | ptr (d o : Nat)
  | elem (d g n i o : Nat)
  | prt (d g a l : Nat)
  | fz (cs : List SV)
  | gp (g o : Nat)
  | agg (cs : List SV)
  | tup (vs : List SV)
instance : Inhabited SV := ⟨.unk⟩
instance : Inhabited (Row SV) := ⟨.bools []⟩
/-- What the package's variables hold; the functions that put something behind a slice that is handed to them (by number). -/
def lookG : List (Nat × List SV) → Nat → Option (List SV)
  | [], _ => none
  | (k, v) :: r, n => if n = k then some v else lookG r n
def glbL : List (Nat × List SV) := []
def glbAt (g : Nat) : Option (List SV) := lookG glbL g
def isApp : Nat → Bool
  | _ => false

def Row.len {α : Type} : Row α → Nat
  | .ints _ l => l.length
  | .bools l => l.length
  | .strs l => l.length
  | .recs _ l => l.length
def Row.isRecs {α : Type} : Row α → Bool
  | .recs _ _ => true
  | _ => false
def Row.size {α : Type} : Row α → Nat
  | .recs n _ => n
  | _ => 1
def Row.cells : Row SV → List SV
  | .ints k l => l.map (.int k)
  | .bools l => l.map .bool
  | .strs l => l.map .str
  | .recs _ l => l.flatten
/-- Element i's cells. -/
def Row.get : Row SV → Nat → List SV
  | .ints k l, i => [.int k (l.getD i 0)]
  | .bools l, i => [.bool (l.getD i false)]
  | .strs l, i => [.str (l.getD i [])]
  | .recs _ l, i => l.getD i []
def Row.sub {α : Type} : Row α → Nat → Nat → Row α
  | .ints k l, a, b => .ints k ((l.take b).drop a)
  | .bools l, a, b => .bools ((l.take b).drop a)
  | .strs l, a, b => .strs ((l.take b).drop a)
  | .recs n l, a, b => .recs n ((l.take b).drop a)
def Row.cat {α : Type} : Row α → Row α → Option (Row α)
  | .ints k l, .ints k' l' => if k = k' then some (.ints k (l ++ l')) else none
  | .bools l, .bools l' => some (.bools (l ++ l'))
  | .strs l, .strs l' => some (.strs (l ++ l'))
  | .recs n l, .recs n' l' => if n = n' then some (.recs n (l ++ l')) else none
  | _, _ => none

/-- What lies behind a label: nothing; a variable's cells; a slice of our own; one that is no more written. -/
inductive Cel where
  | fresh
  | var (T : Nat) (cs : List SV)
  | row (g e : Nat) (r : Row SV)
  | frow (g : Nat) (r : Row SV)
instance : Inhabited Cel := ⟨.fresh⟩
def Cel.isFresh : Cel → Bool
  | .fresh => true
  | _ => false
def Cel.ver : Cel → Option Nat
  | .fresh => none
  | .var _ _ => some 0
  | .row g _ _ => some g
  | .frow g _ => some g

structure St where
  fr : Nat → SV
  mem : Nat → Cel

inductive SO where
  | t (n : Nat)
  | c (v : SV)
instance : Inhabited SO := ⟨.t 0⟩

/-- The operations. -/
inductive SK where
  | mov (x : SO)
  | pick (c a b : SO)
  | box (T : Nat) (x : SO)
  | alloc (T : Nat) (z : List SV)
  | build (z : List SV) (ps : List (Nat × Nat × SO))
  | load (n : Option Nat) (x : SO) (L : Option Nat)
  | store (n : Nat) (x v : SO) (L : Option Nat)
  | bin (op : BinOp) (x y : SO)
  | eqb (neg : Bool) (x y : SO)
  | eqs (neg : Bool) (offs : List (Nat × Nat)) (x y : SO)
  | bins (op : BinOp) (x y : SO)
  | un (op : UnOp) (x : SO)
  | conv (k : IntKind) (x : SO)
  | faddr (off : Nat) (x : SO)
  | fld (off : Nat) (n : Option Nat) (x : SO)
  | ext (x : SO) (i : Nat)
  | mx (max : Bool) (x y : SO)
  | mx3 (max : Bool) (x y z : SO)
  | mkf (f : Nat) (cs : List SO)
  | sidx (x i : SO)
  | aidx (n sz : Nat) (k : Option Nat) (x i : SO)
  | aptr (n sz : Nat) (x i : SO)
  | ssub (x : SO) (lo hi : Option SO)
  | call (f : Nat) (fz : Bool) (args : List SO)
  | callv (fz : Bool) (x : SO) (args : List SO)
  | callw (f : Nat) (x : SO)
  | len (str : Bool) (x : SO)
  | idx (sz : Nat) (x i : SO)
  | isnil (neg : Bool) (x : SO)
  | bad
  | nilrow (e : Nat) (r : Row SV)
  | lit (e len : Nat) (r : Row SV) (z : List SV) (ps : List (Nat × Nat × SO))
  | litf (e len : Nat) (r : Row SV) (z : List SV) (ps : List (Nat × Nat × SO))
  | litz (e len : Nat) (r : Row SV) (z : List SV) (ps : List (Nat × Nat × SO))
  | litg (e len : Nat) (r : Row SV) (z : List SV) (ps : List (Nat × Nat × SO))
  | mk (e bytes : Nat) (r : Row SV) (z : List SV) (l c : SO)
  | app (e sz bytes : Nat) (x y : SO)
  | apps (e : Nat) (x y : SO)
  | tob (e : Nat) (x : SO)
  | tos (x : SO)
  | calla (f : Nat) (args : List SO)
  | sub (fz : Bool) (sz : Nat) (x : SO) (lo hi : Option SO)
  | part (sz : Nat) (x : SO) (lo hi : Option SO)
  | cpy (x y : SO)
instance : Inhabited SK := ⟨.mov default⟩

structure SOp where
  dst : Option Nat
  g : Option (Nat × Bool)
  k : SK
instance : Inhabited SOp := ⟨⟨none, none, default⟩⟩

inductive SC where
  | skip
  | reg (id : Nat) (ops : List SOp) (live : List Nat)
  | frz (ts : List Nat)
  | seq (a b : SC)
  | cond (c : SO) (a b : SC)
  | block (id : Nat) (b : SC)
  | loop (k : Nat) (b : SC)
  | exit (id : Nat)
  | ret
instance : Inhabited SC := ⟨.skip⟩

/-! ### From the model's code -/

def svOf0 : Value → Option SV
  | .int k n => some (.int k n)
  | .bool b => some (.bool b)
  | .string s => some (.str s.data.toList)
  | .slice none 0 0 => some .nil
  | _ => none
def svOf : Value → Option SV
  | .agg cs => (cs.toList.mapM svOf0).map .agg
  | v => svOf0 v
def cellsSV (v : Value) : Option (List SV) := v.cells.toList.mapM svOf0
def cO : Operand → Option SO
  | .tmp t => some (.t t)
  | .const v => some (.c ((svOf v).getD .unk))
  | .func f => some (.c (.clo f []))
  | .global g => some (.c (.gp g 0))
def isAggD : TypeDesc → Bool
  | .struct _ | .array _ _ => true
  | _ => false
def aggN (P : Program) (t : TypeId) : Option (Option Nat) :=
  match P.underlying t, P.info? t with
  | some d, some i => some (if isAggD d then some i.size else none)
  | _, _ => none
def fieldTag (P : Program) (f : Field) : Option (Nat × Nat) :=
  if f.name = "_" then none else
  match P.underlying f.type with
  | some (.int _) => some (f.offset, 0)
  | some .bool => some (f.offset, 1)
  | some .string => some (f.offset, 2)
  | _ => none
/-- .. or several, of an array of whole numbers. -/
def fieldTags (P : Program) (f : Field) : Option (List (Nat × Nat)) :=
  match P.underlying f.type with
  | some (.array n e) => if f.name = "_" then none else match P.underlying e, P.info? e, P.info? f.type with
    | some (.int _), some _, some _ => if P.cellsOf e = 1 ∧ P.cellsOf f.type = n then some ((List.range n).map fun j => (f.offset + j, 0)) else none
    | _, _, _ => none
  | _ => (fieldTag P f).map fun p => [p]
def place (P : Program) (fs : Array Field) (i : Nat) : Option (Nat × Nat) :=
  fs[i]?.bind fun f => (P.info? f.type).map fun j => (f.offset, j.size)
def cPart (P : Program) (fs : Array Field) (p : Nat × Operand) : Option (Nat × Nat × SO) :=
  match place P fs p.1, cO p.2 with
  | some (o, n), some x => some (o, n, x)
  | _, _ => none
def cLit (n : Nat) (p : Nat × Operand) : Option (Nat × Nat × SO) := match cO p.2 with
  | some x => some (p.1 * n, n, x)
  | none => none
/-- A slice of such elements, with none in it. -/
def row0 (P : Program) (e : TypeId) : Option (Row SV) := if 1000000 ≤ e then none else match P.underlying e, P.info? e with
  | some (.int k), some i => if i.size = 1 then some (.ints k []) else none
  | some .bool, some i => if i.size = 1 then some (.bools []) else none
  | some .string, some i => if i.size = 1 then some (.strs []) else none
  | some _, some i => if 0 < i.size then some (.recs i.size []) else none
  | _, _ => none
def isSliceT (P : Program) (e : TypeId) : Bool := match P.underlying e with
  | some (.slice _) => true
  | _ => false
def cOpt : Option Operand → Option (Option SO)
  | none => some none
  | some x => (cO x).map some
def isStrT (P : Program) (t : TypeId) : Bool := match P.underlying t with
  | some .string => true
  | _ => false
def isByteT (P : Program) (e : TypeId) : Bool := match P.underlying e with
  | some (.int .u8) => true
  | _ => false
def isZ8 : Value → Bool
  | .int .u8 0 => true
  | _ => false
def isNil : Operand → Bool
  | .const (.slice none 0 0) => true
  | _ => false

def cOp0 (P : Program) (fz : Bool) (o : Oper) : Option SK :=
  match o.op with
  | .move x | .assign x => if isNil x then (match P.underlying o.type with
      | some (.slice e) => (row0 P e).map (.nilrow e)
      | _ => none) else (cO x).map .mov
  | .pick c a b => match cO c, cO a, cO b with
    | some c, some a, some b => some (.pick c a b)
    | _, _, _ => none
  | .box T x => (cO x).map (.box T)
  | .alloc T => match ((P.info? T).bind (·.zero)).bind cellsSV with
    | some z => some (.alloc T z)
    | none => none
  | .build T ps => match P.underlying T, ((P.info? T).bind (·.zero)).bind cellsSV with
    | some (.struct fs), some z => if (fs.toList.all fun f => (P.info? f.type).isSome) then (ps.toList.mapM (cPart P fs)).map (.build z) else none
    | some (.array _ e), some z => match P.info? e with
      | some j => (ps.toList.mapM (cLit j.size)).map (.build z)
      | none => none
    | _, _ => none
  | .load T x => match aggN P T, cO x with
    | some n, some x => some (.load n x none)
    | _, _ => none
  | .store T x v => match P.info? T, cO x, cO v with
    | some i, some x, some v => some (.store i.size x v none)
    | _, _, _ => none
  | .binOp op T x y _ => match P.underlying T, cO x, cO y with
    | some (.int _), some x, some y => some (.bin op x y)
    | some .bool, some x, some y => match op with
      | .eql => some (.eqb false x y)
      | .neq => some (.eqb true x y)
      | _ => none
    | some .string, some x, some y => some (.bins op x y)
    | some (.struct fs), some x, some y =>
      match fs.toList.mapM (fieldTags P), !P.stoodInHeld T && !P.eqGuardType P.depth T, op with
      | some os, true, .eql => some (.eqs false os.flatten x y)
      | some os, true, .neq => some (.eqs true os.flatten x y)
      | _, _, _ => none
    | some (.slice _), some x, some (.c .nil) => match op with
      | .eql => some (.isnil false x)
      | .neq => some (.isnil true x)
      | _ => none
    | _, _, _ => none
  | .unOp op _ x => (cO x).map (.un op)
  | .convert src dst x => match P.underlying src, P.underlying dst, cO x with
    | some (.int _), some (.int k), some x => some (.conv k x)
    | some .string, some (.slice e), some x => if isByteT P e && decide (e < 1000000) then some (.tob (e + 1000000) x) else none
    | some (.slice e), some .string, some x => if isByteT P e then some (.tos x) else none
    | _, _, _ => none
  | .fieldAddr T x f => match P.underlying T, cO x with
    | some (.struct fs), some x => match place P fs f with
      | some (o, _ + 1) => some (.faddr o x)
      | _ => none
    | _, _ => none
  | .field T x f => match P.underlying T, cO x with
    | some (.struct fs), some x => match fs[f]? with
      | some g => (aggN P g.type).map fun n => .fld g.offset n x
      | none => none
    | _, _ => none
  | .extract x i => (cO x).map fun x => .ext x i
  | .makeFunc (.func f) first caps => if first.isEmpty then (caps.toList.mapM cO).map (.mkf f) else none
  | .call c => match c.callee with
    | .value (.func f) => match P.funcs[f]?, c.args.toList.mapM cO with
      | some fn, some xs => if fn.name != "runtime.NumGoroutine" && fn.body.isSome then (if isApp f then some (.calla f xs) else if fn.results.isEmpty then (match xs with | [x] => some (.callw f x) | _ => none) else some (.call f fz xs)) else none
      | _, _ => none
    | .value (.tmp t) => (c.args.toList.mapM cO).map (.callv fz (.t t))
    | .builtin .max => match c.args.toList.mapM cO with
      | some [x, y] => some (.mx true x y)
      | some [x, y, z] => some (.mx3 true x y z)
      | _ => none
    | .builtin .min => match c.args.toList.mapM cO with
      | some [x, y] => some (.mx false x y)
      | some [x, y, z] => some (.mx3 false x y z)
      | _ => none
    | .builtin .len => match c.argTypes.toList, c.args.toList with
      | [t], [x] => match P.underlying t, cO x with
        | some (.slice _), some x => some (.len false x)
        | some .string, some x => some (.len true x)
        | _, _ => none
      | _, _ => none
    | .builtin .append => match c.argTypes.toList, c.args.toList with
      | [t, t'], [x, y] => match P.underlying t, cO x, cO y with
        | some (.slice e), some x, some y => match ((P.info? e).bind (·.zero)), P.info? e, row0 P e with
          | some z, some i, some _ => if t = t' ∧ z.cells.size = i.size ∧ 0 < i.bytes then some (.app e i.size i.bytes x y) else if isStrT P t' && isByteT P e && isZ8 z && i.size == 1 && i.bytes == 1 then some (.apps e x y) else none
          | _, _, _ => none
        | _, _, _ => none
      | _, _ => none
    | .builtin .copy => match c.argTypes.toList, c.args.toList with
      | [t, _], [x, y] => match P.underlying t, cO x, cO y with
        | some (.slice e), some x, some y => match row0 P e with
          | some (.ints _ _) => some (.cpy x y)
          | _ => none
        | _, _, _ => none
      | _, _ => none
    | _ => none
  | .indexAddr t x i => match P.underlying t, cO x, cO i with
    | some (.slice e), some x, some i => match row0 P e with
      | some r => some (.idx r.size x i)
      | none => none
    | some (.array n e), some x, some i => match P.info? e with
      | some j => if 0 < j.size then some (.aptr n j.size x i) else none
      | none => none
    | _, _, _ => none
  | .index t x i => match P.underlying t, cO x, cO i with
    | some .string, some x, some i => some (.sidx x i)
    | some (.array n e), some x, some i => match P.info? e, aggN P e with
      | some j, some k => some (.aidx n j.size k x i)
      | _, _ => none
    | _, _, _ => none
  | .slice t x lo hi none => match P.underlying t, cO x, cOpt lo, cOpt hi with
    | some (.slice e), some x, some lo, some hi => match row0 P e with
      | some r => some (.sub fz r.size x lo hi)
      | none => none
    | some .string, some x, some lo, some hi => some (.ssub x lo hi)
    | _, _, _, _ => none
  | .buildSlice t len ps => match P.underlying t with
    | some (.slice e) => match ((P.info? e).bind (·.zero)).bind cellsSV, P.info? e, row0 P e with
      | some z, some j, some r => match ps.toList.mapM (cLit j.size) with
        | some qs => if z.length = j.size ∧ len * j.size ≤ 1000 then some (if (fz && r.isRecs) || isSliceT P e then .litf e len r z qs else .lit e len r z qs) else none
        | none => none
      | _, _, _ => none
    | _ => none
  | .makeSlice t l c => match P.underlying t, cO l, cO c with
    | some (.slice e), some l, some c => match ((P.info? e).bind (·.zero)).bind cellsSV, P.info? e, row0 P e with
      | some z, some j, some r => if z.length = j.size ∧ 0 < j.bytes then some (.mk e j.bytes r z l c) else none
      | _, _, _ => none
    | _, _, _ => none
  | _ => none

/-- Whatever the walk does not know must not be come to. -/
def cOp (P : Program) (fz : Bool) (o : Oper) : Option SK := some ((cOp0 P fz o).getD .bad)

/-- Which operations leave memory alone and do not look at it; which write it. -/
def SK.pure : SK → Bool
  | .mov _ | .pick .. | .build .. | .bin .. | .eqb .. | .eqs .. | .bins .. | .un .. | .conv .. | .faddr .. | .fld .. | .ext .. | .mx .. | .mx3 .. | .mkf .. | .sidx .. | .ssub .. | .aidx .. | .aptr .. => true
  | _ => false
def SK.writes : SK → Bool
  | .store .. | .app .. | .apps .. | .callw .. | .calla .. | .litf .. | .litg .. | .cpy .. => true
  | .call _ fz _ | .callv fz _ _ | .sub fz _ _ _ _ => fz
  | _ => false
/-- Which operations make something new and do not look at memory. -/
def SK.blind : SK → Bool
  | .lit .. | .litz .. | .alloc .. | .box .. | .nilrow .. | .mk .. | .tob .. => true
  | _ => false
def SK.isApp : SK → Bool
  | .app .. => true
  | _ => false
def SK.sees (k : SK) : Bool := !k.pure && !k.blind
def SK.opnds : SK → List SO
  | .mov x | .box _ x | .load _ x _ | .un _ x | .conv _ x | .faddr _ x | .fld _ _ x | .ext x _ | .len _ x | .isnil _ x | .callw _ x | .tob _ x | .tos x => [x]
  | .pick c a b | .mx3 _ c a b => [c, a, b]
  | .alloc .. | .nilrow .. | .bad => []
  | .build _ ps | .lit _ _ _ _ ps | .litf _ _ _ _ ps | .litz _ _ _ _ ps | .litg _ _ _ _ ps => ps.map (·.2.2)
  | .store _ x v _ => [x, v]
  | .bin _ x y | .eqb _ x y | .eqs _ _ x y | .bins _ x y | .mx _ x y | .idx _ x y | .sidx x y | .aidx _ _ _ x y | .aptr _ _ x y | .mk _ _ _ _ x y | .app _ _ _ x y | .apps _ x y | .cpy x y => [x, y]
  | .call _ _ xs | .mkf _ xs | .calla _ xs => xs
  | .callv _ x xs => x :: xs
  | .ssub x lo hi | .sub _ _ x lo hi | .part _ x lo hi => x :: (lo.toList ++ hi.toList)

def SOp.looks (o : SOp) : List Nat :=
  (o.k.opnds.filterMap fun | .t n => some n | _ => none) ++ (o.g.map (·.1)).toList
def SOp.apart (x y : SOp) : Bool :=
  (match x.dst with | some d => !y.looks.contains d && y.dst != some d | none => true) &&
  (match y.dst with | some d => !x.looks.contains d | none => true)

/-! The labels in a value. -/
mutual
def SV.labs : SV → List Nat
  | .sl d _ => [d]
  | .ptr d _ => [d]
  | .elem d _ _ _ _ => [d]
  | .prt d _ _ _ => [d]
  | .clo _ cs => labsL cs
  | .fz cs => labsL cs
  | .agg cs => labsL cs
  | .tup cs => labsL cs
  | .rw r => labsR r
  | .nn r => labsR r
  | .unk => []
  | .int _ _ => []
  | .bool _ => []
  | .str _ => []
  | .nil => []
  | .gp _ _ => []
def labsL : List SV → List Nat
  | [] => []
  | c :: cs => c.labs ++ labsL cs
def labsLL : List (List SV) → List Nat
  | [] => []
  | c :: cs => labsL c ++ labsLL cs
def labsR : Row SV → List Nat
  | .recs _ l => labsLL l
  | .ints _ _ => []
  | .bools _ => []
  | .strs _ => []
end

def SOp.closed (x : SOp) : Bool := x.k.opnds.all fun | .c v => v.labs.isEmpty | _ => true
/-- A load and a store of two variables; a load of a variable, and what is put behind a slice. -/
def SK.twoVars : SK → SK → Bool
  | .load _ _ (some a), .store _ _ _ (some b) => a != b
  | .store _ _ _ (some b), .load _ _ (some a) => a != b
  | .load _ _ (some _), .app .. => true
  | .app .., .load _ _ (some _) => true
  | _, _ => false
/-- Two operations of which it makes no difference which comes first. -/
def SOp.comm (x y : SOp) : Bool := x.apart y && x.closed && y.closed && ((!x.k.writes && !y.k.writes) || (x.k.writes && y.k.pure) || (x.k.pure && y.k.writes) || x.k.twoVars y.k || (x.k.isApp && y.k.blind) || (x.k.blind && y.k.isApp))

def SK.ann (L : Option Nat) : SK → SK
  | .load n x _ => .load n x L
  | .store n x v _ => .store n x v L
  | k => k
def SK.bare : SK → Bool
  | .load _ _ (some _) | .store _ _ _ (some _) => false
  | _ => true
/-- The label of the variable whose address lies in a slot: its only writer makes the variable ('vs': slot, label), or takes a part's address (in this region). -/
def slotLab (vs : List (Nat × Nat)) (ops : Array Oper) (t : Nat) : Option Nat :=
  match vs.find? (fun p => p.1 == t) with
  | some p => some p.2
  | none => ops.toList.findSome? fun o => if o.dst == some t then (match o.op with
    | .fieldAddr _ (.tmp u) _ => (vs.find? fun p => p.1 == u).map (·.2)
    | _ => none) else none
def opLab (vs : List (Nat × Nat)) (ops : Array Oper) (o : Oper) : Option Nat := match o.op with
  | .load _ (.tmp t) => slotLab vs ops t
  | .store _ (.tmp t) _ => slotLab vs ops t
  | _ => none

/-- A slice literal that only calls of its region take, where the order is drawn: nobody writes it. -/
def SK.letz (b b2 : Bool) : SK → SK
  | .lit e n r z ps => if b then .litz e n r z ps else .lit e n r z ps
  | .litf e n r z ps => if b then .litg e n r z ps else .litf e n r z ps
  | .sub fz sz x lo hi => if b2 then .part sz x lo hi else .sub fz sz x lo hi
  | k => k
/-- A part of a slice that only copies of its region take. -/
def toCopy (ops : Array Oper) (o : Oper) : Bool := match o.dst with
  | none => false
  | some t => (ops.toList.any fun q => q.op.operands.any fun x => match x with | .tmp u => u == t | _ => false) && ops.toList.all fun q => !(q.op.operands.any fun x => match x with | .tmp u => u == t | _ => false) || (match q.op with
    | .call c => (match c.callee with
      | .builtin .copy => true
      | _ => false)
    | _ => false)
def toCalls (P : Program) (ops : Array Oper) (o : Oper) : Bool := match o.dst with
  | none => false
  | some t => ops.toList.all fun q => !(q.op.operands.any fun x => match x with | .tmp u => u == t | _ => false) || (match q.op with
    | .call c => (match c.callee with
      | .value (.func f) => !isApp f && (match P.funcs[f]? with | some fn => !fn.results.isEmpty | none => false)
      | _ => false)
    | _ => false)
/-- A slice literal that only struct literals of its region take. -/
def toBuild (ops : Array Oper) (o : Oper) : Bool := match o.dst with
  | none => false
  | some t => (ops.toList.any fun q => q.op.operands.any fun x => match x with | .tmp u => u == t | _ => false) && ops.toList.all fun q => !(q.op.operands.any fun x => match x with | .tmp u => u == t | _ => false) || (match q.op with
    | .build _ _ => true
    | _ => false)
/-- In a function that appends nothing such a literal is made as one that nobody writes (the mark in 'vs' says so). -/
def ltz (vs : List (Nat × Nat)) (fz : Bool) (P : Program) (ops : Array Oper) (o : Oper) : Bool := (!fz && toCalls P ops o) || (vs.any (fun p => p.1 == 1000000) && toBuild ops o)
def cOper (P : Program) (fz : Bool) (vs : List (Nat × Nat)) (ops : Array Oper) (o : Oper) : Option SOp :=
  match cOp P fz o with
  | none => none
  | some k => if !k.bare then none else match o.guard with
    | none => some ⟨o.dst, none, (k.ann (opLab vs ops o)).letz (ltz vs fz P ops o) (toCopy ops o)⟩
    | some (j, want) => match (ops[j]?).bind (·.dst) with
      | some g => some ⟨o.dst, some (g, want), (k.ann (opLab vs ops o)).letz (ltz vs fz P ops o) (toCopy ops o)⟩
      | none => none

/-- Number i waits for number j. -/
def waits (ops : Array Oper) (i j : Nat) : Bool := match ops[i]? with
  | some o => o.after.any fun e => Region.binds .any e && e.on == j
  | none => false
/-- .. or for one that does, or for one that waits for such a one. -/
def waitsK (ops : Array Oper) : Nat → Nat → Nat → Bool
  | 0, i, j => waits ops i j
  | f + 1, i, j => waits ops i j || (List.range ops.size).any fun k => waits ops i k && waitsK ops f k j
def waits3 (ops : Array Oper) (i j : Nat) : Bool := waitsK ops 2 i j || waitsK ops 6 i j
/-- The order of the text serves for every order: whoever stands ahead and is not waited for may as well come later. -/
def ordersOk (ops : Array Oper) (ss : List SOp) : Bool :=
  (List.range ops.size).all fun i => match ops[i]?, ss[i]? with
    | some o, some si => (o.after.all fun e => !Region.binds .any e || decide (e.on < i)) &&
      (List.range i).all fun j => (match ss[j]? with | some sj => sj.comm si | none => false) || waits3 ops i j
    | _, _ => false

def cRegion1 (P : Program) (fz : Bool) (n : Nat) (vs : List (Nat × Nat)) (ops : Array Oper) (draw : Bool) : Option (List SOp) :=
  match ops.toList.mapM (cOper P fz vs ops) with
  | none => none
  | some ss => if (ss.all fun s => match s.dst with | some d => decide (d < n) | none => true) && (!draw || ordersOk ops ss) then some ss else none
/-- Where the order is drawn, no slice is let go. -/
def cRegion (P : Program) (n : Nat) (vs : List (Nat × Nat)) (ops : Array Oper) (draw : Bool) : Option (List SOp) := cRegion1 P (!draw) n vs ops draw

/-- The first region's number. -/
def SC.first : SC → Nat
  | .reg id _ _ => id
  | .seq a _ => a.first
  | .cond _ a _ => a.first
  | .block _ b => b.first
  | .loop _ b => b.first
  | _ => 0

/-- Where a slot's value comes from, by moves alone. -/
def srcOf (ops : Array Oper) (t : Nat) : Nat := match ops.toList.find? fun o => o.dst == some t with
  | some o => (match o.op with | .move (.tmp u) => u | _ => t)
  | none => t
/-- The slices of which a part is taken where the order is drawn: they are let go ahead of it. -/
def frzOf (ops : Array Oper) : List Nat := (ops.toList.filterMap fun o => match o.op with
  | .slice _ (.tmp t) _ _ _ => if toCopy ops o then none else some (srcOf ops t)
  | _ => none).eraseDups
def cCode (P : Program) (n : Nat) (vs : List (Nat × Nat)) (G : List Nat) : Code → Option SC
  | .skip => some .skip
  | .label _ => some .skip
  | .region id ops draw => (cRegion P n vs ops draw).map fun ss => if draw && !(frzOf ops).isEmpty then .seq (.frz (frzOf ops)) (.reg id ss G) else .reg id ss G
  | .seq a b => match cCode P n vs G a, cCode P n vs G b with
    | some a, some b => some (.seq a b)
    | _, _ => none
  | .cond c a b => match cO c, cCode P n vs G a, cCode P n vs G b with
    | some c, some a, some b => some (.cond c a b)
    | _, _, _ => none
  | .block id b => (cCode P n vs G b).map (.block id)
  | .loop b => (cCode P n vs G b).map fun s => .loop s.first s
  | .exit id => some (.exit id)
  | .ret => some .ret
  | _ => none

def SO.slot : SO → List Nat
  | .t n => [n]
  | _ => []
/-- Per region: what it reads, what it writes. -/
def SC.uses : SC → List (List Nat × List Nat)
  | .reg _ ops _ => [(ops.flatMap SOp.looks, ops.filterMap (·.dst))]
  | .frz ts => [(ts, [])]
  | .seq a b => a.uses ++ b.uses
  | .cond c a b => (c.slot, []) :: (a.uses ++ b.uses)
  | .block _ b => b.uses
  | .loop _ b => b.uses
  | _ => []
/-- The slots that are read in another region than the one that wrote them. -/
def liveOf (us : List (List Nat × List Nat)) (res : List Nat) (n : Nat) : List Nat :=
  (List.range n).filter fun t => res.contains t || us.zipIdx.any fun (u, i) => u.1.contains t && (us.zipIdx.any fun (v, j) => i != j && v.2.contains t) || (u.1.contains t && !us.any fun v => v.2.contains t)

inductive SR where
  | t (n : Nat)
  | cell (n : Nat) (k : Option Nat)
  deriving Inhabited
structure SF where
  n : Nat
  res : List SR
  body : SC
instance : Inhabited SF := ⟨⟨0, [], default⟩⟩

def cRes (P : Program) : ResultVar → Option SR
  | .tmp t => some (.t t)
  | .cell a t => (aggN P t).map (.cell a)

/-- Who writes which slot: slot, label, whether it makes a variable. -/
def wrtOps (id : Nat) : Nat → List Oper → List (Nat × Nat × Bool)
  | _, [] => []
  | i, o :: l => (match o.dst with
    | some d => [(d, 1000 * id + i, match o.op with | .alloc _ | .box _ _ => true | _ => false)]
    | none => []) ++ wrtOps id (i + 1) l
def wrtOf : Code → List (Nat × Nat × Bool)
  | .region id ops _ => wrtOps id 0 ops.toList
  | .seq a b => wrtOf a ++ wrtOf b
  | .cond _ a b => wrtOf a ++ wrtOf b
  | .block _ b => wrtOf b
  | .loop b => wrtOf b
  | _ => []
def varsOf (ws : List (Nat × Nat × Bool)) : List (Nat × Nat) :=
  ws.filterMap fun w => if w.2.2 && (ws.filter fun v => v.1 == w.1).length == 1 then some (w.1, w.2.1) else none

def SR.slot : SR → Nat
  | .t n => n
  | .cell n _ => n

/-- Nothing is appended in it. -/
def noApp : Code → Bool
  | .region _ ops _ => ops.toList.all fun o => match o.op with
    | .call c => (match c.callee with
      | .builtin .append => false
      | _ => true)
    | _ => true
  | .seq a b => noApp a && noApp b
  | .cond _ a b => noApp a && noApp b
  | .block _ b => noApp b
  | .loop b => noApp b
  | _ => true
def varsC (c : Code) : List (Nat × Nat) := varsOf (wrtOf c) ++ (if noApp c then [(1000000, 0)] else [])
def cFunc (P : Program) (f : Nat) : Option SF :=
  match P.funcs[f]? with
  | some fn => if fn.name = "runtime.NumGoroutine" then none else match fn.body with
    | some c => match cCode P fn.ntmps (varsC c) [] c, fn.results.toList.mapM (cRes P) with
      | some b0, some r => match cCode P fn.ntmps (varsC c) (liveOf b0.uses (r.map SR.slot) fn.ntmps) c with
        | some b => some ⟨fn.ntmps, r, b⟩
        | none => none
      | _, _ => none
    | none => none
  | none => none

/-! ### What is to be shown -/

def St.put (s : St) (d : Option Nat) (v : SV) : St :=
  match d with
  | some d => { s with fr := fun t => if t = d then v else s.fr t }
  | none => s
def setM (m : Nat → Cel) (d : Nat) (c : Cel) : Nat → Cel := fun t => if t = d then c else m t
def St.setm (s : St) (d : Nat) (c : Cel) : St := { s with mem := setM s.mem d c }
def SO.ev (s : St) : SO → SV
  | .t n => s.fr n
  | .c v => v

/-- A value of one cell. -/
def SV.one : SV → Bool
  | .unk | .agg _ | .tup _ => false
  | _ => true
def SV.cells : SV → List SV
  | .agg cs => cs
  | v => [v]

def binI (op : BinOp) (k : IntKind) (a b : Int) : Option (Prop × SV) :=
  match op with
  | .add => some (True, .int k (k.wrap (a + b)))
  | .sub => some (True, .int k (k.wrap (a - b)))
  | .mul => some (True, .int k (k.wrap (a * b)))
  | .quo => some (b ≠ 0, .int k (k.wrap (a.tdiv b)))
  | .rem => some (b ≠ 0, .int k (a.tmod b))
  | .and => some (True, .int k (bits .and k a b))
  | .or => some (True, .int k (bits .or k a b))
  | .xor => some (True, .int k (bits .xor k a b))
  | .andNot => some (True, .int k (bits .andNot k a b))
  | .eql => some (True, .bool (a == b))
  | .neq => some (True, .bool (a != b))
  | .lss => some (True, .bool (decide (a < b)))
  | .leq => some (True, .bool (decide (a ≤ b)))
  | .gtr => some (True, .bool (decide (b < a)))
  | .geq => some (True, .bool (decide (b ≤ a)))
  | _ => none
def binV (op : BinOp) (x y : SV) : Option (Prop × SV) :=
  match op, x, y with
  | .shl, .int k a, .int _ b => some (0 ≤ b, .int k (k.wrap (a * 2 ^ (min b.toNat k.bits))))
  | .shr, .int k a, .int _ b => some (0 ≤ b, .int k (a.fdiv (2 ^ (min b.toNat k.bits))))
  | op, .int k a, .int k' b => if k = k' then binI op k a b else none
  | _, _, _ => none
def cellEq (t : Nat) (x y : SV) : Option Bool :=
  match t, x, y with
  | 0, .int k a, .int k' b => if k = k' then some (a == b) else none
  | 1, .bool a, .bool b => some (a == b)
  | 2, .str a, .str b => some (a == b)
  | _, _, _ => none
def eqCells (xs ys : List SV) : List (Nat × Nat) → Option Bool
  | [] => some true
  | (o, t) :: os => match xs[o]?, ys[o]? with
    | some x, some y => match cellEq t x y, eqCells xs ys os with
      | some a, some b => some (a && b)
      | _, _ => none
    | _, _ => none
/-- cells from o on are those. -/
def setAt (cs : List SV) (o : Nat) : List SV → List SV
  | [] => cs
  | v :: vs => setAt (cs.set o v) (o + 1) vs
def fillP (z : List SV) : List (Nat × Nat) → List SV → Option (List SV)
  | [], [] => some z
  | (o, n) :: ps, v :: vs => if v.cells.length = n ∧ o + n ≤ z.length ∧ v.cells.all SV.one then fillP (setAt z o v.cells) ps vs else none
  | _, _ => none
def partV (cs : List SV) (off : Nat) : Option Nat → Option SV
  | none => match cs[off]? with
    | some v => if v.one then some v else none
    | none => none
  | some n => if off + n ≤ cs.length ∧ ((cs.drop off).take n).all SV.one = true then some (.agg ((cs.drop off).take n)) else none

/-- Strings, byte by byte. -/
def binS (op : BinOp) (a b : List UInt8) : Option (Prop × SV) := match op with
  | .add => some (a.length + b.length ≤ 9223372036854775807, .str (a ++ b))
  | .eql => some (True, .bool (a == b))
  | .neq => some (True, .bool (!(a == b)))
  | .lss => some (True, .bool (Op.bytesLess a b))
  | .leq => some (True, .bool (Op.bytesLess a b || a == b))
  | .gtr => some (True, .bool (!(Op.bytesLess a b || a == b)))
  | .geq => some (True, .bool (!Op.bytesLess a b))
  | _ => none
/-- Bounds of a part: l to h of n. -/
def bnds (n : Nat) (lo hi : Option SO) : List SV → Option (Int × Int) := fun vs => match lo, hi, vs with
  | none, none, [] => some (0, n)
  | some _, none, [.int _ l] => some (l, n)
  | none, some _, [.int _ h] => some (0, h)
  | some _, some _, [.int _ l, .int _ h] => some (l, h)
  | _, _, _ => none

def effP (k : SK) (vs : List SV) : Option (Prop × SV) :=
  match k, vs with
  | .mov _, [v] => some (True, v)
  | .pick .., [.bool c, a, b] => some (True, if c then a else b)
  | .build z ps, vs => match fillP z (ps.map fun p => (p.1, p.2.1)) vs with
    | some cs => some (True, .agg cs)
    | none => none
  | .bin op _ _, [x, y] => binV op x y
  | .eqb neg _ _, [.bool a, .bool b] => some (True, .bool (if neg then !(a == b) else a == b))
  | .eqs neg offs _ _, [.agg xs, .agg ys] => match eqCells xs ys offs with
    | some b => some (True, .bool (if neg then !b else b))
    | none => none
  | .bins op _ _, [.str a, .str b] => binS op a b
  | .mx m _ _, [.int k a, .int k' b] => if k = k' then some (True, .int k (if m then (if b > a then b else a) else (if b < a then b else a))) else none
  | .mx3 m _ _ _, [.int k a, .int k' b, .int k'' c] => if k = k' ∧ k = k'' then some (True, .int k (if m then (if c > (if b > a then b else a) then c else (if b > a then b else a)) else (if c < (if b < a then b else a) then c else (if b < a then b else a)))) else none
  | .un .neg _, [.int k a] => some (True, .int k (k.wrap (0 - a)))
  | .un .not _, [.bool b] => some (True, .bool (!b))
  | .un .xor _, [.int k a] => some (True, .int k (bits .xor k (if k.signed then -1 else k.max) a))
  | .conv k _, [.int _ a] => some (True, .int k (k.wrap a))
  | .faddr off _, [.ptr d o] => some (True, .ptr d (o + off))
  | .faddr off _, [.gp g o] => some (True, .gp g (o + off))
  | .faddr off _, [.fz cs] => some (off < cs.length, .fz (cs.drop off))
  | .faddr off _, [.elem d g n i o] => some (True, .elem d g n i (o + off))
  | .fld off n _, [.agg cs] => (partV cs off n).map fun v => (True, v)
  | .ext _ i, [.tup vs] => match vs[i]? with
    | some (.tup _) => none
    | some v => some (True, v)
    | none => none
  | .mkf f _, vs => if vs.all SV.one then some (True, .clo f vs) else none
  | .sidx .., [.str s, .int _ i] => some (0 ≤ i ∧ i < s.length, .int .u8 ((s.getD i.toNat 0).toNat : Int))
  | .aidx n sz k _ _, [.agg cs, .int _ i] => (partV cs (i.toNat * sz) k).map fun v => (0 ≤ i ∧ i < (n : Int), v)
  | .aptr n sz _ _, [.gp g o, .int _ i] => some (0 ≤ i ∧ i < (n : Int), .gp g (o + i.toNat * sz))
  | .aptr n sz _ _, [.ptr d o, .int _ i] => some (0 ≤ i ∧ i < (n : Int), .ptr d (o + i.toNat * sz))
  | .ssub _ lo hi, .str s :: vs => (bnds s.length lo hi vs).map fun b => (0 ≤ b.1 ∧ b.1 ≤ b.2 ∧ b.2 ≤ (s.length : Int), .str ((s.take b.2.toNat).drop b.1.toNat))
  | _, _ => none

/-- What an operation comes to: its value, the labels that are new, those that are written anew. -/
structure Eff where
  v : SV
  new : List (Nat × Cel)
  set : List (Nat × Cel)
def Eff.val (v : SV) : Eff := ⟨v, [], []⟩

/-- What a slice holds. -/
def rowAt (m : Nat → Cel) : SV → Option (Row SV)
  | .sl d g => match m d with
    | .row g' _ r => if g = g' then some r else none
    | .frow g' r => if g = g' then some r else none
    | _ => none
  | .rw r => some r
  | .nn r => some r
  | _ => none

/-- A value with the rows of its slices in their place. -/
def SV.resP (m : Nat → Cel) : SV → SV
  | .ptr d o => match m d with
    | .var _ cs => .fz (cs.drop o)
    | _ => .unk
  | v => v
def SV.res0 (m : Nat → Cel) : SV → SV
  | .sl d g => match rowAt m (.sl d g) with
    | some r => .rw r
    | none => .unk
  | .ptr d o => SV.resP m (.ptr d o)
  | .clo f cs => .clo f (cs.map (SV.resP m))
  | v => v
def SV.res1 (m : Nat → Cel) : SV → SV
  | .agg cs => .agg (cs.map (SV.res0 m))
  | v => v.res0 m

/-- No label is in it, and nothing unknown ('fz', 'clo': one step in). -/
def SV.okN : SV → Bool
  | .unk | .agg _ | .tup _ | .elem .. | .prt .. | .sl .. | .ptr .. => false
  | .fz cs => cs.all SV.one
  | _ => true
def SV.ok0 : SV → Bool
  | .unk | .agg _ | .tup _ | .elem .. | .prt .. | .sl .. | .ptr .. => false
  | .clo _ cs => cs.all SV.okN && (labsL cs).isEmpty
  | .fz cs => cs.all SV.one && (labsL cs).isEmpty
  | .rw r => (labsR r).isEmpty
  | .nn r => (labsR r).isEmpty
  | _ => true
def SV.ok1 : SV → Bool
  | .agg cs => cs.all SV.ok0
  | v => v.ok0
/-- No memory is reached from it but a slice that is new. -/
def SV.solid0 : SV → Bool
  | .int .. | .bool _ | .str _ | .nil => true
  | .sl 0 0 => true
  | _ => false
def SV.solid1 : SV → Bool
  | .agg cs => cs.all SV.solid0
  | v => v.solid0
def SV.solid : SV → Bool
  | .tup vs => vs.all SV.solid1
  | v => v.solid1
def SV.flat0 : SV → Bool
  | .int .. | .bool _ | .str _ | .nil => true
  | _ => false
def Row.flat : Row SV → Bool
  | .recs _ l => l.all fun cs => cs.all SV.flat0
  | _ => true
def solidAll (r : SV) (own : Option (Nat × Row SV)) : Bool := r.solid && (match own with | some (_, row) => row.flat | none => true)
/-- The new slice's name in a result. -/
def SV.nm0 (lab : Nat) : SV → SV
  | .sl _ _ => .sl lab 0
  | v => v
def SV.nm1 (lab : Nat) : SV → SV
  | .agg cs => .agg (cs.map (SV.nm0 lab))
  | v => v.nm0 lab
def SV.nm (lab : Nat) : SV → SV
  | .tup vs => .tup (vs.map (SV.nm1 lab))
  | v => v.nm1 lab

/-- What is said of the functions: their result, and the new slice that is in it ('sl 0 0'). -/
abbrev Gam := Nat → List SV → Option (Prop × SV × Option (Nat × Row SV))

/-- The label that the text foretells. -/
def labOk (L : Option Nat) (d : Nat) : Bool := match L with
  | none => true
  | some l => l == d

/-- Element i of r, but with cells cs from cell o on. -/
def intsOf (k : IntKind) : List SV → Option (List Int)
  | [] => some []
  | .int k' n :: l => if k' = k then (intsOf k l).map (n :: ·) else none
  | _ => none
def boolsOf : List SV → Option (List Bool)
  | [] => some []
  | .bool b :: l => (boolsOf l).map (b :: ·)
  | _ => none
def strsOf : List SV → Option (List (List UInt8))
  | [] => some []
  | .str b :: l => (strsOf l).map (b :: ·)
  | _ => none
def chunks : Nat → Nat → List SV → List (List SV)
  | 0, _, _ => []
  | f + 1, n, cs => cs.take n :: chunks f n (cs.drop n)
/-- Cells as a row of the kind of r. -/
def mkRow (r : Row SV) (len : Nat) (cs : List SV) : Option (Row SV) := match r with
  | .ints k _ => (intsOf k cs).map (.ints k)
  | .bools _ => (boolsOf cs).map .bools
  | .strs _ => (strsOf cs).map .strs
  | .recs n _ => some (.recs n (chunks len n cs))
def Row.put (r : Row SV) (i o : Nat) (cs : List SV) : Option (Row SV) := match r, cs with
  | .ints k l, [.int k' x] => if k = k' ∧ o = 0 then some (.ints k (l.set i x)) else none
  | .bools l, [.bool x] => if o = 0 then some (.bools (l.set i x)) else none
  | .strs l, [.str x] => if o = 0 then some (.strs (l.set i x)) else none
  | .recs n l, cs => if o + cs.length ≤ n then some (.recs n (l.set i (setAt (l.getD i []) o cs))) else none
  | _, _ => none
/-- n times the zero value. -/
def Row.rep (r : Row SV) (n : Nat) (z : List SV) : Option (Row SV) := match r, z with
  | .ints k _, [.int k' x] => if k = k' then some (.ints k (List.replicate n x)) else none
  | .bools _, [.bool x] => some (.bools (List.replicate n x))
  | .strs _, [.str x] => some (.strs (List.replicate n x))
  | .recs m _, z => if z.length = m then some (.recs m (List.replicate n z)) else none
  | _, _ => none

/-- The slices of our own that are handed on. -/
def own0 (m : Nat → Cel) : SV → List (Nat × Cel)
  | .sl d _ => match m d with
    | .row g _ r => [(d, .frow g r)]
    | _ => []
  | _ => []
def own1 (m : Nat → Cel) : SV → List (Nat × Cel)
  | .agg cs => cs.flatMap (own0 m)
  | v => own0 m v
/-- A variable is handed on. -/
def SV.noPtr0 : SV → Bool
  | .ptr .. => false
  | .clo _ cs => (labsL cs).isEmpty
  | _ => true
def SV.noPtr1 : SV → Bool
  | .agg cs => cs.all SV.noPtr0
  | v => v.noPtr0

/-- A slice of our own that is let go: what it holds. -/
def SV.go0 (m : Nat → Cel) : SV → SV
  | .sl d g => match rowAt m (.sl d g) with
    | some r => .rw r
    | none => .unk
  | v => v
def SV.go1 (m : Nat → Cel) : SV → SV
  | .agg cs => .agg (cs.map (SV.go0 m))
  | v => v.go0 m
def effCall (Γ : Gam) (lab f : Nat) (fz : Bool) (vs : List SV) (m : Nat → Cel) : Option (Prop × Eff) :=
  if (vs.map (SV.res1 m)).all SV.ok1 then
    match Γ f (vs.map (SV.res1 m)) with
    | some (p, r, own) =>
      if solidAll r own then some (p, ⟨r.nm lab, match own with | some (e, row) => [(lab, .row 0 e row)] | none => [], []⟩)
      else if vs.all SV.noPtr1 then
        (if fz || (vs.flatMap (own1 m)).isEmpty then some (p, ⟨r.nm lab, match own with | some (e, row) => [(lab, .row 0 e row)] | none => [], vs.flatMap (own1 m)⟩) else none)
      else none
    | none => none
  else none

/-- Where a copy goes: the label, its state, its element type, what it holds, from where on, how many at most. -/
def cpyDst (m : Nat → Cel) : SV → Option (Nat × Nat × Nat × IntKind × List Int × Nat × Nat)
  | .sl d g => match m d with
    | .row g' e (.ints k l) => if g = g' ∧ e < 1000000 then some (d, g, e, k, l, 0, l.length) else none
    | _ => none
  | .prt d g a n => match m d with
    | .row g' e (.ints k l) => if g = g' ∧ e < 1000000 then some (d, g, e, k, l, a, n) else none
    | _ => none
  | _ => none
/-- What is copied. -/
def cpySrc (m : Nat → Cel) : SV → Option (Prop × IntKind × List Int)
  | .prt d g a n => match rowAt m (.sl d g) with
    | some (.ints k l) => some (a + n ≤ l.length, k, (l.drop a).take n)
    | _ => none
  | x => match rowAt m x with
    | some (.ints k l) => some (True, k, l)
    | _ => none
def cpyL (l : List Int) (a : Nat) (xs : List Int) : List Int := l.take a ++ xs ++ l.drop (a + xs.length)
def effM (Γ : Gam) (lab : Nat) (k : SK) (vs : List SV) (m : Nat → Cel) : Option (Prop × Eff) :=
  match k with
  | .box T _ => match vs with
    | [v] => if v.cells.all SV.one then some (True, ⟨.ptr lab 0, [(lab, .var T v.cells)], []⟩) else none
    | _ => none
  | .alloc T z => match vs with
    | [] => some (True, ⟨.ptr lab 0, [(lab, .var T z)], []⟩)
    | _ => none
  | .load n _ L => match vs with
    | [.ptr d o] => if labOk L d then (match m d with
      | .var _ cs => (partV cs o n).map fun v => (True, .val v)
      | _ => none) else none
    | [.fz cs] => if L.isNone then (partV cs 0 n).map fun v => (True, .val v) else none
    | [.gp g o] => if L.isNone then (match glbAt g with
      | some cs => (partV cs o n).map fun v => (True, .val v)
      | none => none) else none
    | [.elem d g sz i o] => if L.isNone then (match rowAt m (.sl d g) with
      | some r => if sz = r.size then (partV (r.get i) o n).map fun v => (i < r.len, .val v) else none
      | none => none) else none
    | _ => none
  | .store n _ _ L => match vs with
    | [.ptr d o, v] => if labOk L d then (match m d with
      | .var T cs => if v.cells.length = n ∧ o + n ≤ cs.length ∧ v.cells.all SV.one then some (True, ⟨.tup [], [], [(d, .var T (setAt cs o v.cells))]⟩) else none
      | _ => none) else none
    | [.elem d g sz i o, v] => if L.isNone then (match m d with
      | .row g' e r => if g = g' ∧ sz = r.size ∧ (v.go1 m).cells.length = n ∧ (v.go1 m).cells.all SV.one ∧ ((own1 m v).all fun p => p.1 != d) = true then (r.put i o (v.go1 m).cells).map fun r' => (i < r.len, ⟨.tup [], [], own1 m v ++ [(d, .row g e r')]⟩) else none
      | _ => none) else none
    | _ => none
  | .call f fz _ => if f < 1000000 then effCall Γ lab f fz vs m else none
  | .callw f _ => match vs with
    | [.sl d g] => match m d with
      | .row g' e r => if g = g' ∧ (labsR r).isEmpty = true ∧ e < 1000000 then (match Γ (f + 1000000) [.rw r] with
        | some (p, .rw r', none) => if r'.size = r.size ∧ r'.len = r.len ∧ r'.flat = true then some (p, ⟨.tup [], [], [(d, .row g e r')]⟩) else none
        | _ => none) else none
      | _ => none
    | _ => none
  | .calla f _ => match vs with
    | .sl d g :: rest => match m d with
      | .row g' e r => if g = g' ∧ r.flat = true ∧ rest.all SV.flat0 = true then (match Γ (f + 1000000) (.rw r :: rest) with
        | some (p, .sl 0 0, some (e', r')) => if e' = e ∧ e < 1000000 ∧ r'.size = r.size ∧ r'.flat = true then some (p, ⟨.sl d (g + 1), [], [(d, .row (g + 1) e r')]⟩) else none
        | _ => none) else none
      | _ => none
    | _ => none
  | .tob e _ => match vs with
    | [.str s] => some (s.length ≤ 140737488355328, ⟨.sl lab 0, [(lab, .row 0 e (.ints .u8 (s.map fun b => (b.toNat : Int))))], []⟩)
    | _ => none
  | .tos _ => match vs with
    | [.nil] => some (True, .val (.str []))
    | [v] => match rowAt m v with
      | some (.ints .u8 l) => some (True, .val (.str (l.map fun n => UInt8.ofNat n.toNat)))
      | _ => none
    | _ => none
  | .apps e _ _ => match vs with
    | [.sl d g, .str s] => match m d with
      | .row g' e' (.ints .u8 l) => if g = g' ∧ e' = e then some (l.length + s.length ≤ 140737488355328, ⟨.sl d (g + 1), [], [(d, .row (g + 1) e (.ints .u8 (l ++ s.map fun b => (b.toNat : Int))))]⟩) else none
      | _ => none
    | _ => none
  | .callv fz _ _ => match vs with
    | .clo f caps :: vs => if f < 1000000 then effCall Γ lab f fz (vs ++ caps) m else none
    | _ => none
  | .len true _ => match vs with
    | [.str s] => some (True, .val (.int .i64 s.length))
    | _ => none
  | .len false _ => match vs with
    | [.nil] => some (True, .val (.int .i64 0))
    | [v] => (rowAt m v).map fun r => (True, .val (.int .i64 r.len))
    | _ => none
  | .idx sz _ _ => match vs with
    | [.sl d g, .int _ i] => match rowAt m (.sl d g) with
      | some r => if sz = r.size then some (0 ≤ i ∧ i < r.len, .val (.elem d g sz i.toNat 0)) else none
      | none => none
    | [.rw r, .int _ i] => if sz = r.size then some (0 ≤ i ∧ i < r.len, .val (.fz (r.get i.toNat))) else none
    | _ => none
  | .isnil neg _ => match vs with
    | [.nil] => some (True, .val (.bool (!neg)))
    | [.nn _] => some (True, .val (.bool neg))
    | [v] => (rowAt m v).map fun r => (0 < r.len, .val (.bool neg))
    | _ => none
  | .bad => none
  | .nilrow e r => some (True, ⟨.sl lab 0, [(lab, .row 0 e r)], []⟩)
  | .lit e len r z ps => match fillP (List.replicate len z).flatten (ps.map fun p => (p.1, p.2.1)) vs with
    | some cs => (mkRow r len cs).map fun r' => (True, ⟨.sl lab 0, [(lab, .row 0 e r')], []⟩)
    | none => none
  | .litz _ len r z ps => match fillP (List.replicate len z).flatten (ps.map fun p => (p.1, p.2.1)) vs with
    | some cs => (mkRow r len cs).map fun r' => (True, ⟨.rw r', [(lab, .frow 0 r')], []⟩)
    | none => none
  | .litf e len r z ps => match fillP (List.replicate len z).flatten (ps.map fun p => (p.1, p.2.1)) (vs.map (SV.go1 m)) with
    | some cs => (mkRow r len cs).map fun r' => (True, ⟨.sl lab 0, [(lab, .row 0 e r')], vs.flatMap (own1 m)⟩)
    | none => none
  | .litg _ len r z ps => match fillP (List.replicate len z).flatten (ps.map fun p => (p.1, p.2.1)) (vs.map (SV.go1 m)) with
    | some cs => (mkRow r len cs).map fun r' => (True, ⟨.rw r', [(lab, .frow 0 r')], vs.flatMap (own1 m)⟩)
    | none => none
  | .mk e bytes r z _ _ => match vs with
    | [.int _ l, .int _ c] => (r.rep l.toNat z).map fun r' => (0 ≤ l ∧ l ≤ c ∧ c * bytes ≤ 140737488355328, ⟨.sl lab 0, [(lab, .row 0 e r')], []⟩)
    | _ => none
  | .app e sz bytes _ _ => match vs with
    | [.sl d g, .nil] => match m d with
      | .row g' e' r => if g = g' ∧ e' = e then some (True, ⟨.sl d (g + 1), [], [(d, .row (g + 1) e r)]⟩) else none
      | _ => none
    | [.sl d g, y] => match m d, rowAt m y with
      | .row g' e' r, some r' => if g = g' ∧ e' = e ∧ sz = r.size then (r.cat r').map fun r'' => ((r.len + r'.len) * bytes ≤ 140737488355328, ⟨.sl d (g + 1), [], [(d, .row (g + 1) e r'')]⟩) else none
      | _, _ => none
    | [.nil, y] => match rowAt m y with
      | some r' => if sz = r'.size then some (r'.len * bytes ≤ 140737488355328, ⟨.sl lab 0, [(lab, .row 0 e r')], []⟩) else none
      | none => none
    | _ => none
  | .sub fz sz _ lo hi => match vs with
    | .nil :: vs => (bnds 0 lo hi vs).map fun b => (b.1 = 0 ∧ b.2 = 0, .val .nil)
    | x :: vs => match rowAt m x with
      | some r => if sz = r.size ∧ (fz || (own0 m x).isEmpty) = true then (bnds r.len lo hi vs).map fun b => (0 ≤ b.1 ∧ b.1 ≤ b.2 ∧ b.2 ≤ (r.len : Int), ⟨.rw (r.sub b.1.toNat b.2.toNat), [], own0 m x⟩) else none
      | none => none
    | _ => none
  | .part sz _ lo hi => match vs with
    | .sl d g :: vs => match m d with
      | .row g' _ (.ints _ l) => if g = g' ∧ sz = 1 then (bnds l.length lo hi vs).map fun b => (0 < l.length ∧ 0 ≤ b.1 ∧ b.1 ≤ b.2 ∧ b.2 ≤ (l.length : Int), .val (.prt d g b.1.toNat (b.2 - b.1).toNat)) else none
      | _ => none
    | _ => none
  | .cpy _ _ => match vs with
    | [x, y] => match cpyDst m x, cpySrc m y with
      | some (d, g, e, k, l, a, n), some (q, k', xs) => if k = k' then some (a + n ≤ l.length ∧ q, ⟨.int .i64 (xs.take n).length, [], [(d, .row g e (.ints k (cpyL l a (xs.take n))))]⟩) else none
      | _, _ => none
    | _ => none
  | _ => none

def eff (Γ : Gam) (lab : Nat) (k : SK) (vs : List SV) (m : Nat → Cel) : Option (Prop × Eff) :=
  if k.pure then (effP k vs).map fun r => (r.1, .val r.2) else effM Γ lab k vs m

def setL (s : St) : List (Nat × Cel) → St
  | [] => s
  | (d, c) :: l => setL (s.setm d c) l
def app (dst : Option Nat) (s : St) (e : Eff) : Option St :=
  if e.new.all fun p => (s.mem p.1).isFresh then some ((setL s (e.new ++ e.set)).put dst e.v) else none

def vcOp (Γ : Gam) (lab : Nat) (dst : Option Nat) (k : SK) (s : St) (K : St → Prop) : Prop :=
  match k with
  | .pick c a b => match c.ev s with
    | .bool t => if t = true then K (s.put dst (a.ev s)) else K (s.put dst (b.ev s))
    | _ => False
  | k => match eff Γ lab k (k.opnds.map (SO.ev s)) s.mem with
    | some (p, e) => p ∧ (match app dst s e with
      | some s' => K s'
      | none => False)
    | none => False

def vcOps (Γ : Gam) : List SOp → Nat → St → (St → Prop) → Prop
  | [], _, s, K => K s
  | ⟨dst, none, k⟩ :: rest, i, s, K => vcOp Γ i dst k s fun s' => vcOps Γ rest (i + 1) s' K
  | ⟨dst, some (g, want), k⟩ :: rest, i, s, K => match s.fr g with
    | .bool b => if b = want then vcOp Γ i dst k (s.put (some g) (.bool want)) fun s' => vcOps Γ rest (i + 1) s' K
        else vcOps Γ rest (i + 1) ((s.put (some g) (.bool (!want))).put dst (.tup [])) K
    | .tup [] => vcOps Γ rest (i + 1) (s.put dst (.tup [])) K
    | _ => False

inductive SE where
  | normal
  | exit (id : Nat)
  | ret

/-- A state that says no more than s does. -/
def lookN {α : Type} : List (Nat × α) → Nat → Option α
  | [], _ => none
  | (k, v) :: r, n => if n = k then some v else lookN r n
def memOf (mem : List (Nat × Cel)) : Nat → Cel := fun d => (lookN mem d).getD .fresh
def St.fl (fr : List (Nat × SV)) (m : Nat → Cel) : St := ⟨fun t => (lookN fr t).getD .unk, m⟩
def St.of (fr : List (Nat × SV)) (mem : List (Nat × Cel)) : St := St.fl fr (memOf mem)
/-- What is still wanted. -/
def getAll (s : St) : List Nat → List (Nat × SV)
  | [] => []
  | t :: l => (t, s.fr t) :: getAll s l
def keepSt (live : List Nat) (s : St) : St := St.fl (getAll s live) s.mem
def hasN {α : Type} (l : List (Nat × α)) (n : Nat) : Bool := (lookN l n).isSome
/-- All labels that are named stand in the list. -/
def listsOk (fr : List (Nat × SV)) (mem : List (Nat × Cel)) : Bool :=
  (fr.all fun p => p.2.labs.all (hasN mem) && (match p.2 with | .agg cs => cs.all SV.one | _ => true)) &&
  (mem.all fun p => match p.2 with | .var _ cs => (labsL cs).all (hasN mem) | .fresh => false | .row _ _ r => (labsR r).all (hasN mem) | .frow _ r => (labsR r).all (hasN mem))
/-- x may stand for y: a nil slice for an empty one, a slice of our own that is let go for one that nobody writes. -/
def fit0 (s : St) (M : List (Nat × Cel)) (x y : SV) : Prop := match y with
  | .rw r => match x with
    | .rw r' => r' = r
    | .nil => r.len = 0
    | .sl d g => hasN M d = false ∧ rowAt s.mem (.sl d g) = some r ∧ labsR r = []
    | _ => False
  | .unk => True
  | y => x = y
def fitL (s : St) (M : List (Nat × Cel)) : List SV → List SV → Prop
  | [], [] => True
  | x :: xs, y :: ys => fit0 s M x y ∧ fitL s M xs ys
  | _, _ => False
def fit1 (s : St) (M : List (Nat × Cel)) (x y : SV) : Prop := match y with
  | .agg ys => match x with
    | .agg xs => fitL s M xs ys
    | _ => False
  | y => fit0 s M x y
def frIn (s : St) (M : List (Nat × Cel)) : List (Nat × SV) → Prop
  | [] => True
  | (t, v) :: r => fit1 s M (s.fr t) v ∧ frIn s M r
def fitC (s : St) (M : List (Nat × Cel)) (x y : Cel) : Prop := match y with
  | .var T ys => match x with
    | .var T' xs => T' = T ∧ fitL s M xs ys
    | _ => False
  | y => x = y
def memIn (s : St) (M : List (Nat × Cel)) : List (Nat × Cel) → Prop
  | [] => True
  | (d, c) :: r => fitC s M (s.mem d) c ∧ memIn s M r

def frzSt : List Nat → St → St
  | [], s => s
  | t :: ts, s => frzSt ts (setL s (own1 s.mem (s.fr t)))
def vc (Γ : Gam) : SC → St → (SE → St → Prop) → Prop
  | .skip, s, K => K .normal s
  | .frz ts, s, K => K .normal (frzSt ts s)
  | .reg id ops live, s, K => vcOps Γ ops (1000 * id) s fun s' => K .normal (keepSt live s')
  | .seq a b, s, K => vc Γ a s fun e s' => match e with
    | .normal => vc Γ b s' K
    | .exit i => K (.exit i) s'
    | .ret => K .ret s'
  | .cond c a b, s, K => match c.ev s with
    | .bool t => if t = true then vc Γ a s K else vc Γ b s K
    | _ => False
  | .block id b, s, K => vc Γ b s fun e s' => match e with
    | .exit i => if i = id then K .normal s' else K (.exit i) s'
    | .normal => K .normal s'
    | .ret => K .ret s'
  | .loop _ b, s, K => ∃ (ι : Type) (F : ι → List (Nat × SV)) (M : ι → List (Nat × Cel)) (I : ι → Prop) (μ : ι → Nat),
      (∃ i, I i ∧ listsOk (F i) (M i) = true ∧ frIn s (M i) (F i) ∧ memIn s (M i) (M i)) ∧
      ∀ i, I i → vc Γ b (St.of (F i) (M i)) fun e s' => match e with
        | .normal => ∃ j, (I j ∧ μ j < μ i) ∧ listsOk (F j) (M j) = true ∧ frIn s' (M j) (F j) ∧ memIn s' (M j) (M j)
        | .exit i => K (.exit i) s'
        | .ret => K .ret s'
  | .exit id, s, K => K (.exit id) s
  | .ret, s, K => K .ret s

/-- The results, at the end. -/
def resV (s : St) : SR → Option SV
  | .t n => some (s.fr n)
  | .cell n k => match s.fr n with
    | .ptr d o => match s.mem d with
      | .var _ cs => partV cs o k
      | _ => none
    | _ => none
def resL (s : St) : List SR → Option (List SV)
  | [] => some []
  | r :: rs => match resV s r, resL s rs with
    | some v, some vs => some (v :: vs)
    | _, _ => none
/-- With number j a slice of our own. -/
def takeOwn (m : Nat → Cel) : Nat → List SV → Option (List SV × Nat × Nat × Row SV)
  | _, [] => none
  | 0, .sl d g :: vs => match m d with
    | .row g' e r => if g = g' ∧ (labsL vs).contains d = false ∧ labsR r = [] ∧ e < 1000000 then some (.sl 0 0 :: vs.map (SV.res1 m), d, e, r) else none
    | _ => none
  | 0, _ => none
  | j + 1, v :: vs => match takeOwn m j vs with
    | some (us, d, e, r) => if v.labs.contains d = false then some (v.res1 m :: us, d, e, r) else none
    | none => none
def tupOf : List SV → SV
  | [v] => v
  | us => .tup us
/-- May be handed back. -/
def SV.ret1 (ow : Bool) : SV → Bool
  | .sl 0 0 => ow
  | v => v.ok1
def resAll (s : St) (ow : Option Nat) (rs : List SR) : Option (SV × Option (Nat × Row SV)) :=
  match resL s rs with
  | some vs => match ow with
    | none => if (vs.map (SV.res1 s.mem)).all SV.ok1 then some (tupOf (vs.map (SV.res1 s.mem)), none) else none
    | some j => match takeOwn s.mem j vs with
      | some (us, _, e, r) => if us.all (SV.ret1 true) then some (tupOf us, some (e, r)) else none
      | none => none
  | none => none
def vcRet (ow : Option Nat) (R : SV → Option (Nat × Row SV) → Prop) (rs : List SR) (s : St) : Prop := match resAll s ow rs with
  | some (v, o) => R v o
  | none => False
/-- The arguments in their slots. -/
def entFr : Nat → List SV → List (Nat × SV)
  | _, [] => []
  | k, x :: xs => (k, x) :: entFr (k + 1) xs
/-- The function's claim: with these arguments it hands back a value of which R holds. -/
def vcFun (Γ : Gam) (F : SF) (xs : List SV) (ow : Option Nat) (R : SV → Option (Nat × Row SV) → Prop) : Prop :=
  vc Γ F.body (St.of (entFr 0 xs) []) fun e s => match e with
    | .exit _ => False
    | .normal => vcRet ow R F.res s
    | .ret => vcRet ow R F.res s
end Go.Proofs.Ytgklfolmlcfjgaa.Y
