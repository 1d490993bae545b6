/- The evaluator's values, its code, and how code of the model is read into it. -/
import Derived.RangeFuncRecord
import Derived.OrdersIn
import Derived.Below
import Derived.Laws.Cells
import Derived.Laws.CopyRow
set_option linter.unusedVariables false
set_option linter.unusedSimpArgs false
namespace Go.V
open Go.RowKit

/-- Values. 'lst': a slice over memory that nobody writes: its content. 'own': a slice over a block of the evaluator's own memory. 'emp': no elements, and not nil; with true: no room. 'fresh': only in results: a slice whose block nobody else knows. -/
inductive AV where
  | int (k : IntKind) (n : Int)
  | bool (b : Bool)
  | str (s : ByteArray)
  | agg (cs : List AV)
  | tup (vs : List AV)
  | lst (sz : Nat) (xs : List (List AV))
  | ptrL (sz : Nat) (xs : List (List AV)) (i j : Nat)
  | own (id off len : Nat)
  | ptr (id i j : Nat)
  | emp (z : Bool)
  | nilS
  | nilP
  | nilF
  | fn (f : FuncId) (first caps : List AV)
  | yld (id : Nat)
  | fresh (sz : Nat) (xs : List (List AV))
  deriving Inhabited

/-- A value that fills one cell. -/
def AV.one : AV → Bool
  | .agg _ | .tup _ | .fresh _ _ => false
  | _ => true


/-! Code -/
inductive Arg where
  | t (n : Nat)
  | c (v : AV)
  deriving Inhabited
inductive PO where
  | mv (x : Arg)
  | pick (c a b : Arg)
  | new (cells : List AV)
  | box (x : Arg)
  | build (zero : List AV) (parts : List (Nat × Nat × Arg))
  | buildS (sz n : Nat) (zero : List AV) (parts : List (Nat × Arg))
  | load (n : Option Nat) (x : Arg)
  | store (n : Nat) (x y : Arg)
  | fieldA (off : Nat) (x : Arg)
  | indexS (sz : Nat) (x i : Arg)
  | indexA (len sz : Nat) (x i : Arg)
  | field (n : Option Nat) (off : Nat) (x : Arg)
  | indexV (len : Nat) (n : Option Nat) (sz : Nat) (x i : Arg)
  | bin (op : BinOp) (x y : Arg)
  | eqv (neg agg : Bool) (ks : List Bool) (x y : Arg)
  | un (op : UnOp) (x : Arg)
  | conv (k : IntKind) (x : Arg)
  | mkS (sz bytes : Nat) (zero : List AV) (l c : Arg)
  | sl (sz : Nat) (x : Arg) (lo hi : Option Arg)
  | sl3 (sz : Nat) (x : Arg) (lo : Option Arg) (hi mx : Arg)
  | ext (x : Arg) (i : Nat)
  | mkF (f : FuncId) (first caps : List Arg)
  | call (f : FuncId) (args : List Arg)
  | callv (f : Arg) (args : List Arg)
  | lenS (x : Arg)
  | lenC (n : Nat)
  | app (sz bytes : Nat) (x y : Arg)
  | appZ (sz bytes : Nat) (zero : List AV) (x n : Arg)
  | capS (x : Arg)
  | isNil (neg : Bool) (x : Arg)
  | clr (sz : Nat) (zero : List AV) (x : Arg)
  | mx (max : Bool) (xs : List Arg)
  | bad
  deriving Inhabited
structure IOp where
  dst : Option Nat
  op : PO
  guard : Option (Nat × Bool)
  bef : Nat
  deriving Inhabited
inductive IC where
  | skip
  | region (ops : List IOp) (draw : Bool)
  | seq (a b : IC)
  | cond (c : Arg) (a b : IC)
  | block (id : Nat) (c : IC)
  | loop (c : IC)
  | exit (id : Nat)
  | ret
  | scope (c : IC)
  | rangeF (g : Arg) (ps : List Nat) (a b : IC)
  | bad
  deriving Inhabited
inductive Ex where
  | normal
  | exit (id : Nat)
  | ret
  deriving DecidableEq, Inhabited
inductive IRes where
  | t (n : Nat)
  | cell (n : Nat) (k : Option Nat)
  deriving Inhabited
structure IFn where
  ntmps : Nat
  res : List IRes
  body : IC
  byref : Bool
  deriving Inhabited

def optArgs (x : Option Arg) : List Arg := x.toList
def PO.args : PO → List Arg
  | .mv x | .box x | .load _ x | .fieldA _ x | .field _ _ x | .un _ x | .conv _ x | .ext x _ | .lenS x | .capS x | .isNil _ x | .clr _ _ x => [x]
  | .pick c a b => [c, a, b]
  | .new _ | .lenC _ | .bad => []
  | .build _ ps => ps.map (·.2.2)
  | .buildS _ _ _ ps => ps.map (·.2)
  | .store _ x y | .indexS _ x y | .indexA _ _ x y | .indexV _ _ _ x y | .bin _ x y | .eqv _ _ _ x y | .mkS _ _ _ x y | .app _ _ x y | .appZ _ _ _ x y => [x, y]
  | .sl _ x lo hi => x :: (optArgs lo ++ optArgs hi)
  | .sl3 _ x lo hi m => x :: hi :: m :: optArgs lo
  | .mkF _ a b => a ++ b
  | .call _ as => as
  | .callv g as => g :: as
  | .mx _ xs => xs


/-! How code is read -/
def ofValue1 : Value → Option AV
  | .bool b => some (.bool b)
  | .int k n => some (.int k n)
  | .string s => some (.str s)
  | .pointer none => some .nilP
  | .slice none 0 0 => some .nilS
  | .nilFunc => some .nilF
  | _ => none
def ofCells : List Value → Option (List AV)
  | [] => some []
  | v :: vs => match ofValue1 v, ofCells vs with
    | some a, some as => some (a :: as)
    | _, _ => none
def ofValue : Value → Option AV
  | .agg cs => (ofCells cs.toList).map .agg
  | v => ofValue1 v
def cOpd : Operand → Option Arg
  | .tmp t => some (.t t)
  | .const v => (ofValue v).map .c
  | .func f => some (.c (.fn f [] []))
  | .global _ => none
def cOpds : List Operand → Option (List Arg)
  | [] => some []
  | x :: xs => match cOpd x, cOpds xs with
    | some a, some as => some (a :: as)
    | _, _ => none
def cOpt : Option Operand → Option (Option Arg)
  | none => some none
  | some x => (cOpd x).map some
def isAggD : TypeDesc → Bool
  | .struct _ | .array _ _ => true
  | _ => false
/-- How a value of a type lies in cells. -/
def partK (P : Program) (t : TypeId) : Option (Option Nat) :=
  match P.underlying t, P.info? t with
  | some d, some i => if isAggD d then some (some i.size) else some none
  | _, _ => none
def sizeK (P : Program) (t : TypeId) : Option Nat := (P.info? t).map (·.size)
def zeroK (P : Program) (t : TypeId) : Option (List AV) := ((P.info? t).bind (·.zero)).bind fun v => ofCells v.cells.toList
def placesK (P : Program) (d : TypeDesc) (i : Nat) : Option (Nat × Nat) :=
  match d with
  | .struct fs => (fs[i]?).bind fun f => (sizeK P f.type).map fun s => (f.offset, s)
  | .array _ e => (sizeK P e).map fun s => (i * s, s)
  | _ => none
def allSized (P : Program) (fs : List Field) : Bool := fs.all fun f => (sizeK P f.type).isSome
def partsOK (P : Program) (d : TypeDesc) : Bool :=
  match d with
  | .struct fs => allSized P fs.toList
  | .array _ e => (sizeK P e).isSome
  | _ => false
def cParts (P : Program) (d : TypeDesc) : List (Nat × Operand) → Option (List (Nat × Nat × Arg))
  | [] => some []
  | (i, x) :: ps => match placesK P d i, cOpd x, cParts P d ps with
    | some (o, s), some a, some as => some ((o, s, a) :: as)
    | _, _, _ => none
def cPartsS : List (Nat × Operand) → Option (List (Nat × Arg))
  | [] => some []
  | (i, x) :: ps => match cOpd x, cPartsS ps with
    | some a, some as => some ((i, a) :: as)
    | _, _ => none
/-- The cells of a type, true for a truth, false for a number, if values of it are equal just if these are. -/
def flatFs (P : Program) (rec : TypeId → Option (List Bool)) : List Field → List Bool → Option (List Bool)
  | [], acc => some acc
  | f :: fs, acc =>
    if f.name ≠ "_" ∧ f.offset = acc.length then
      match rec f.type with
      | some ks => if sizeK P f.type = some ks.length then flatFs P rec fs (acc ++ ks) else none
      | none => none
    else none
def flatK (P : Program) : Nat → TypeId → Option (List Bool)
  | 0, _ => none
  | d + 1, t =>
    match P.underlying t with
    | some .bool => some [true]
    | some (.int _) => some [false]
    | some (.struct fs) => if P.stoodInHeld t then none else flatFs P (flatK P d) fs.toList []
    | _ => none
def aggK (P : Program) (t : TypeId) : Bool :=
  match P.underlying t with
  | some d => isAggD d
  | none => false
def isNilC : Operand → Bool
  | .const (.slice none 0 0) => true
  | _ => false
def nilT (P : Program) (t : TypeId) : Bool :=
  match P.underlying t with
  | some (.slice _) => true
  | _ => false
def cNil (P : Program) (neg : Bool) (t : TypeId) (x y : Operand) (ax : Arg) (r : Option PO) : Option PO :=
  if nilT P t && isNilC y then some (.isNil neg ax) else r
def cEqv (P : Program) (neg : Bool) (t : TypeId) (x y : Arg) : Option PO :=
  match flatK P 20 t with
  | some ks => if P.eqGuardType P.depth t then none else some (.eqv neg (aggK P t) ks x y)
  | none => none
def isIntT (P : Program) (t : TypeId) : Bool :=
  match P.underlying t with
  | some (.int _) => true
  | _ => false
def isSliceT (P : Program) (t : TypeId) : Bool :=
  match P.underlying t with
  | some (.slice _) => true
  | _ => false
def cBuiltin (P : Program) (b : Builtin) (argTypes : Array TypeId) (args : List Arg) : Option PO :=
  match b, args with
  | .len, [x] =>
    match (argTypes[0]?).bind P.underlying with
    | some (.slice _) => some (.lenS x)
    | some (.array n _) => some (.lenC n)
    | _ => none
  | .append, [x, y] =>
    match (argTypes[0]?).bind P.underlying, argTypes[1]? with
    | some (.slice e), some u =>
      match P.info? e, zeroK P e with
      | some i, some z => if z.length == i.size then (if isSliceT P u then some (.app i.size i.bytes x y) else if isIntT P u then some (.appZ i.size i.bytes z x y) else none) else none
      | _, _ => none
    | _, _ => none
  | .cap, [x] => match (argTypes[0]?).bind P.underlying with
    | some (.slice _) => some (.capS x)
    | _ => none
  | .clear, [x] => match (argTypes[0]?).bind P.underlying with
    | some (.slice e) => match sizeK P e, zeroK P e with
      | some s, some z => if z.length == s then some (.clr s z x) else none
      | _, _ => none
    | _ => none
  | .min, xs => some (.mx false xs)
  | .max, xs => some (.mx true xs)
  | _, _ => none
def cOp (P : Program) : Op → Option PO
  | .move x | .assign x => (cOpd x).map .mv
  | .pick c a b => match cOpd c, cOpd a, cOpd b with
    | some c, some a, some b => some (.pick c a b)
    | _, _, _ => none
  | .alloc e => (zeroK P e).map .new
  | .box _ x => (cOpd x).map .box
  | .build t ps => match P.underlying t, zeroK P t with
    | some d, some z => if partsOK P d then (cParts P d ps.toList).map (.build z) else none
    | _, _ => none
  | .buildSlice t n ps => match P.underlying t with
    | some (.slice e) => match sizeK P e, zeroK P e, cPartsS ps.toList with
      | some s, some z, some ps => if s == 0 then none else some (.buildS s n z ps)
      | _, _, _ => none
    | _ => none
  | .load t x => match partK P t, cOpd x with
    | some k, some x => some (.load k x)
    | _, _ => none
  | .store t x y => match sizeK P t, cOpd x, cOpd y with
    | some n, some x, some y => some (.store n x y)
    | _, _, _ => none
  | .fieldAddr s x i => match P.underlying s, cOpd x with
    | some (.struct fs), some x => (fs[i]?).bind fun f => match sizeK P f.type with
      | some 0 => none
      | some _ => some (.fieldA f.offset x)
      | none => none
    | _, _ => none
  | .indexAddr t x i => match P.underlying t, cOpd x, cOpd i with
    | some (.slice e), some x, some i => (sizeK P e).map fun s => .indexS s x i
    | some (.array n e), some x, some i => (sizeK P e).map fun s => .indexA n s x i
    | _, _, _ => none
  | .field t x i => match P.underlying t, cOpd x with
    | some (.struct fs), some x => (fs[i]?).bind fun f => (partK P f.type).map fun k => .field k f.offset x
    | _, _ => none
  | .index t x i => match P.underlying t, cOpd x, cOpd i with
    | some (.array n e), some x, some i => match partK P e, sizeK P e with
      | some k, some s => some (.indexV n k s x i)
      | _, _ => none
    | _, _, _ => none
  | .binOp op t xo yo _ => match cOpd xo, cOpd yo with
    | some x, some y =>
      if isIntT P t then some (.bin op x y)
      else match op with
        | .eql => cNil P false t xo yo x (cEqv P false t x y)
        | .neq => cNil P true t xo yo x (cEqv P true t x y)
        | _ => none
    | _, _ => none
  | .unOp op _ x => (cOpd x).map (.un op)
  | .convert s d x => match P.underlying s, P.underlying d, cOpd x with
    | some (.int _), some (.int k), some x => some (.conv k x)
    | _, _, _ => none
  | .makeSlice t l c => match P.underlying t, cOpd l, cOpd c with
    | some (.slice e), some l, some c => match P.info? e, zeroK P e with
      | some i, some z => if i.size == 0 then none else some (.mkS i.size i.bytes z l c)
      | _, _ => none
    | _, _, _ => none
  | .slice t x lo hi none => match P.underlying t, cOpd x, cOpt lo, cOpt hi with
    | some (.slice e), some x, some lo, some hi => (sizeK P e).map fun s => .sl s x lo hi
    | _, _, _, _ => none
  | .slice t x lo (some hi) (some mx) => match P.underlying t, cOpd x, cOpt lo, cOpd hi, cOpd mx with
    | some (.slice e), some x, some lo, some hi, some mx => (sizeK P e).map fun s => .sl3 s x lo hi mx
    | _, _, _, _, _ => none
  | .extract x i => (cOpd x).map fun x => .ext x i
  | .makeFunc (.func f) first caps => match cOpds first.toList, cOpds caps.toList with
    | some a, some b => some (.mkF f a b)
    | _, _ => none
  | .call c => match c.callee, cOpds c.args.toList with
    | .builtin b, some args => cBuiltin P b c.argTypes args
    | .value (.func f), some args => some (.call f args)
    | .value g, some args => (cOpd g).map fun g => .callv g args
    | _, _ => none
  | _ => none
/-- The slots that an operation looks at. -/
def usesO (ops : Array Oper) (o : Oper) : List Tmp := o.looksAt ops
/-- In a region that draws its order: whoever writes a slot, and whoever looks at it or writes it too, stand in one order; edges lead back. -/
def slotsOK (ops : Array Oper) : Bool :=
  let b := Region.before ops
  (ops.toList.zipIdx.all fun p => ops.toList.zipIdx.all fun q => !(decide (q.2 < p.2)) || (b.getD p.2 0).testBit q.2 || q.1.apart ops p.1) &&
  (ops.toList.zipIdx.all fun p => p.1.after.toList.all fun e => !Region.binds .any e || decide (e.on < p.2))
/-- What is looked at is looked at in the model. -/
def usesOK (ops : Array Oper) : List Oper → List IOp → Bool
  | o :: os, io :: ios => (io.op.args.all fun x => match x with
    | .t n => (o.looksAt ops).contains n
    | .c _ => true) && usesOK ops os ios
  | _, _ => true
def cOper (P : Program) (ops : Array Oper) (bef : Nat) (o : Oper) : Option IOp :=
  match o.guard with
  | none => some ⟨o.dst, (cOp P o.op).getD .bad, none, bef⟩
  | some (j, want) => match (ops[j]?).bind (·.dst) with
    | some t => some ⟨o.dst, (cOp P o.op).getD .bad, some (t, want), bef⟩
    | none => none
def cOpers (P : Program) (ops : Array Oper) : List Oper → Nat → Option (List IOp)
  | [], _ => some []
  | o :: os, i => match cOper P ops ((Region.before ops).getD i 0) o, cOpers P ops os (i + 1) with
    | some a, some as => some (a :: as)
    | _, _ => none
def cCode (P : Program) : Code → Option IC
  | .skip => some .skip
  | .region _ ops draw => match cOpers P ops ops.toList 0 with
    | some os => if draw then (if slotsOK ops && usesOK ops ops.toList os then some (.region os true) else none) else some (.region os false)
    | none => none
  | .seq a b => match cCode P a, cCode P b with
    | some a, some b => some (.seq a b)
    | _, _ => none
  | .cond c a b => match cOpd c, cCode P a, cCode P b with
    | some c, some a, some b => some (.cond c a b)
    | _, _, _ => none
  | .block id c => (cCode P c).map (.block id)
  | .loop c => (cCode P c).map .loop
  | .exit id => some (.exit id)
  | .ret => some .ret
  | .scope c => (cCode P c).map .scope
  | .label _ => some .skip
  | .rangeFunc g ps a b => match cOpd g, cCode P a, cCode P b with
    | some g, some a, some b => some (.rangeF g ps.toList a b)
    | _, _, _ => none
  | _ => none
def cRes (P : Program) : ResultVar → Option IRes
  | .tmp t => some (.t t)
  | .cell a t => (partK P t).map (.cell a)
def cRess (P : Program) : List ResultVar → Option (List IRes)
  | [] => some []
  | r :: rs => match cRes P r, cRess P rs with
    | some a, some as => some (a :: as)
    | _, _ => none
def cFn (P : Program) (byref : Bool) (f : FuncId) : Option IFn :=
  match P.funcs[f]? with
  | none => none
  | some fn =>
    if fn.name == "runtime.NumGoroutine" then none else
    match fn.body with
    | none => none
    | some c => match cCode P c, cRess P fn.results.toList with
      | some c, some rs => some ⟨fn.ntmps, rs, c, byref⟩
      | _, _ => none
end Go.V
