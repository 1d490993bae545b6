/- The evaluator's values, its code, and how code of the model is read into it. -/
import Derived.RangeFuncRecord
import Derived.OrdersIn
import Derived.Below
import Derived.Laws.Cells
import Derived.Laws.CopyRow
set_option linter.unusedVariables false
set_option linter.unusedSimpArgs false
namespace Go.V
open Go.RowKit

/-- Values. 'lst': a slice over memory that nobody writes: its content. 'own': a slice over a block of the evaluator's own memory. 'emp': no elements, and not nil; with true: no room. 'fresh': only in results: a slice whose block nobody else knows. -/
inductive AV where
  | int (k : IntKind) (n : Int)
  | bool (b : Bool)
  | str (s : ByteArray)
  | agg (cs : List AV)
  | tup (vs : List AV)
  | lst (sz : Nat) (xs : List (List AV))
  | ptrL (sz : Nat) (xs : List (List AV)) (i j : Nat)
  | own (id off len : Nat)
  | ptr (id i j : Nat)
  | emp (z : Bool)
  | nilS
  | nilP
  | nilF
  | fn (f : FuncId) (first caps : List AV)
  | yld (id : Nat)
  | fresh (sz : Nat) (xs : List (List AV))
  deriving Inhabited

/-- A value that fills one cell. -/
def AV.one : AV → Bool
  | .agg _ | .tup _ | .fresh _ _ => false
  | _ => true


/-! Code -/
inductive Arg where
  | t (n : Nat)
  | c (v : AV)
  deriving Inhabited
inductive PO where
  | mv (x : Arg)
  | pick (c a b : Arg)
  | new (cells : List AV)
  | box (x : Arg)
  | build (zero : List AV) (parts : List (Nat × Nat × Arg))
  | buildS (sz n : Nat) (zero : List AV) (parts : List (Nat × Arg))
  | load (n : Option Nat) (x : Arg)
  | store (n : Nat) (x y : Arg)
  | fieldA (off : Nat) (x : Arg)
  | indexS (sz : Nat) (x i : Arg)
  | indexA (len sz : Nat) (x i : Arg)
  | field (n : Option Nat) (off : Nat) (x : Arg)
  | indexV (len : Nat) (n : Option Nat) (sz : Nat) (x i : Arg)
  | bin (op : BinOp) (x y : Arg)
  | eqv (neg agg : Bool) (ks : List Bool) (x y : Arg)
  | un (op : UnOp) (x : Arg)
  | conv (k : IntKind) (x : Arg)
  | mkS (sz bytes : Nat) (zero : List AV) (l c : Arg)
  | sl (sz : Nat) (x : Arg) (lo hi : Option Arg)
  | sl3 (sz : Nat) (x : Arg) (lo : Option Arg) (hi mx : Arg)
  | ext (x : Arg) (i : Nat)
  | mkF (f : FuncId) (first caps : List Arg)
  | call (f : FuncId) (args : List Arg)
  | callv (f : Arg) (args : List Arg)
  | lenS (x : Arg)
  | lenC (n : Nat)
  | app (sz bytes : Nat) (x y : Arg)
  | appZ (sz bytes : Nat) (zero : List AV) (x n : Arg)
  | capS (x : Arg)
  | isNil (neg : Bool) (x : Arg)
  | clr (sz : Nat) (zero : List AV) (x : Arg)
  | mx (max : Bool) (xs : List Arg)
  | bad
  deriving Inhabited
structure IOp where
  dst : Option Nat
  op : PO
  guard : Option (Nat × Bool)
  bef : Nat
  deriving Inhabited
inductive IC where
  | skip
  | region (ops : List IOp) (draw : Bool)
  | seq (a b : IC)
  | cond (c : Arg) (a b : IC)
  | block (id : Nat) (c : IC)
  | loop (c : IC)
  | exit (id : Nat)
  | ret
  | scope (c : IC)
  | rangeF (g : Arg) (ps : List Nat) (a b : IC)
  | bad
  deriving Inhabited
inductive Ex where
  | normal
  | exit (id : Nat)
  | ret
  deriving DecidableEq, Inhabited
inductive IRes where
  | t (n : Nat)
  | cell (n : Nat) (k : Option Nat)
  deriving Inhabited
structure IFn where
  ntmps : Nat
  res : List IRes
  body : IC
  byref : Bool
  deriving Inhabited

def optArgs (x : Option Arg) : List Arg := x.toList
def PO.args : PO → List Arg
  | .mv x | .box x | .load _ x | .fieldA _ x | .field _ _ x | .un _ x | .conv _ x | .ext x _ | .lenS x | .capS x | .isNil _ x | .clr _ _ x => [x]
  | .pick c a b => [c, a, b]
  | .new _ | .lenC _ | .bad => []
  | .build _ ps => ps.map (·.2.2)
  | .buildS _ _ _ ps => ps.map (·.2)
  | .store _ x y | .indexS _ x y | .indexA _ _ x y | .indexV _ _ _ x y | .bin _ x y | .eqv _ _ _ x y | .mkS _ _ _ x y | .app _ _ x y | .appZ _ _ _ x y => [x, y]
  | .sl _ x lo hi => x :: (optArgs lo ++ optArgs hi)
  | .sl3 _ x lo hi m => x :: hi :: m :: optArgs lo
  | .mkF _ a b => a ++ b
  | .call _ as => as
  | .callv g as => g :: as
  | .mx _ xs => xs


/-! How code is read -/
def ofValue1 : Value → Option AV
  | .bool b => some (.bool b)
  | .int k n => some (.int k n)
  | .string s => some (.str s)
  | .pointer none => some .nilP
  | .slice none 0 0 => some .nilS
  | .nilFunc => some .nilF
  | _ => none
def ofCells : List Value → Option (List AV)
  | [] => some []
  | v :: vs => match ofValue1 v, ofCells vs with
    | some a, some as => some (a :: as)
    | _, _ => none
def ofValue : Value → Option AV
  | .agg cs => (ofCells cs.toList).map .agg
  | v => ofValue1 v
def cOpd : Operand → Option Arg
  | .tmp t => some (.t t)
  | .const v => (ofValue v).map .c
  | .func f => some (.c (.fn f [] []))
  | .global _ => none
def cOpds : List Operand → Option (List Arg)
  | [] => some []
  | x :: xs => match cOpd x, cOpds xs with
    | some a, some as => some (a :: as)
    | _, _ => none
def cOpt : Option Operand → Option (Option Arg)
  | none => some none
  | some x => (cOpd x).map some
def isAggD : TypeDesc → Bool
  | .struct _ | .array _ _ => true
  | _ => false
/-- How a value of a type lies in cells. -/
def partK (P : Program) (t : TypeId) : Option (Option Nat) :=
  match P.underlying t, P.info? t with
  | some d, some i => if isAggD d then some (some i.size) else some none
  | _, _ => none
def sizeK (P : Program) (t : TypeId) : Option Nat := (P.info? t).map (·.size)
def zeroK (P : Program) (t : TypeId) : Option (List AV) := ((P.info? t).bind (·.zero)).bind fun v => ofCells v.cells.toList
def placesK (P : Program) (d : TypeDesc) (i : Nat) : Option (Nat × Nat) :=
  match d with
  | .struct fs => (fs[i]?).bind fun f => (sizeK P f.type).map fun s => (f.offset, s)
  | .array _ e => (sizeK P e).map fun s => (i * s, s)
  | _ => none
def allSized (P : Program) (fs : List Field) : Bool := fs.all fun f => (sizeK P f.type).isSome
def partsOK (P : Program) (d : TypeDesc) : Bool :=
  match d with
  | .struct fs => allSized P fs.toList
  | .array _ e => (sizeK P e).isSome
  | _ => false
def cParts (P : Program) (d : TypeDesc) : List (Nat × Operand) → Option (List (Nat × Nat × Arg))
  | [] => some []
  | (i, x) :: ps => match placesK P d i, cOpd x, cParts P d ps with
    | some (o, s), some a, some as => some ((o, s, a) :: as)
    | _, _, _ => none
def cPartsS : List (Nat × Operand) → Option (List (Nat × Arg))
  | [] => some []
  | (i, x) :: ps => match cOpd x, cPartsS ps with
    | some a, some as => some ((i, a) :: as)
    | _, _ => none
/-- The cells of a type, true for a truth, false for a number, if values of it are equal just if these are. -/
def flatFs (P : Program) (rec : TypeId → Option (List Bool)) : List Field → List Bool → Option (List Bool)
  | [], acc => some acc
  | f :: fs, acc =>
    if f.name ≠ "_" ∧ f.offset = acc.length then
      match rec f.type with
      | some ks => if sizeK P f.type = some ks.length then flatFs P rec fs (acc ++ ks) else none
      | none => none
    else none
def flatK (P : Program) : Nat → TypeId → Option (List Bool)
  | 0, _ => none
  | d + 1, t =>
    match P.underlying t with
    | some .bool => some [true]
    | some (.int _) => some [false]
    | some (.struct fs) => if P.stoodInHeld t then none else flatFs P (flatK P d) fs.toList []
    | _ => none
def aggK (P : Program) (t : TypeId) : Bool :=
  match P.underlying t with
  | some d => isAggD d
  | none => false
def isNilC : Operand → Bool
  | .const (.slice none 0 0) => true
  | _ => false
def nilT (P : Program) (t : TypeId) : Bool :=
  match P.underlying t with
  | some (.slice _) => true
  | _ => false
def cNil (P : Program) (neg : Bool) (t : TypeId) (x y : Operand) (ax : Arg) (r : Option PO) : Option PO :=
  if nilT P t && isNilC y then some (.isNil neg ax) else r
def cEqv (P : Program) (neg : Bool) (t : TypeId) (x y : Arg) : Option PO :=
  match flatK P 20 t with
  | some ks => if P.eqGuardType P.depth t then none else some (.eqv neg (aggK P t) ks x y)
  | none => none
def isIntT (P : Program) (t : TypeId) : Bool :=
  match P.underlying t with
  | some (.int _) => true
  | _ => false
def isSliceT (P : Program) (t : TypeId) : Bool :=
  match P.underlying t with
  | some (.slice _) => true
  | _ => false
def cBuiltin (P : Program) (b : Builtin) (argTypes : Array TypeId) (args : List Arg) : Option PO :=
  match b, args with
  | .len, [x] =>
    match (argTypes[0]?).bind P.underlying with
    | some (.slice _) => some (.lenS x)
    | some (.array n _) => some (.lenC n)
    | _ => none
  | .append, [x, y] =>
    match (argTypes[0]?).bind P.underlying, argTypes[1]? with
    | some (.slice e), some u =>
      match P.info? e, zeroK P e with
      | some i, some z => if z.length == i.size then (if isSliceT P u then some (.app i.size i.bytes x y) else if isIntT P u then some (.appZ i.size i.bytes z x y) else none) else none
      | _, _ => none
    | _, _ => none
  | .cap, [x] => match (argTypes[0]?).bind P.underlying with
    | some (.slice _) => some (.capS x)
    | _ => none
  | .clear, [x] => match (argTypes[0]?).bind P.underlying with
    | some (.slice e) => match sizeK P e, zeroK P e with
      | some s, some z => if z.length == s then some (.clr s z x) else none
      | _, _ => none
    | _ => none
  | .min, xs => some (.mx false xs)
  | .max, xs => some (.mx true xs)
  | _, _ => none
def cOp (P : Program) : Op → Option PO
  | .move x | .assign x => (cOpd x).map .mv
  | .pick c a b => match cOpd c, cOpd a, cOpd b with
    | some c, some a, some b => some (.pick c a b)
    | _, _, _ => none
  | .alloc e => (zeroK P e).map .new
  | .box _ x => (cOpd x).map .box
  | .build t ps => match P.underlying t, zeroK P t with
    | some d, some z => if partsOK P d then (cParts P d ps.toList).map (.build z) else none
    | _, _ => none
  | .buildSlice t n ps => match P.underlying t with
    | some (.slice e) => match sizeK P e, zeroK P e, cPartsS ps.toList with
      | some s, some z, some ps => if s == 0 then none else some (.buildS s n z ps)
      | _, _, _ => none
    | _ => none
  | .load t x => match partK P t, cOpd x with
    | some k, some x => some (.load k x)
    | _, _ => none
  | .store t x y => match sizeK P t, cOpd x, cOpd y with
    | some n, some x, some y => some (.store n x y)
    | _, _, _ => none
  | .fieldAddr s x i => match P.underlying s, cOpd x with
    | some (.struct fs), some x => (fs[i]?).bind fun f => match sizeK P f.type with
      | some 0 => none
      | some _ => some (.fieldA f.offset x)
      | none => none
    | _, _ => none
  | .indexAddr t x i => match P.underlying t, cOpd x, cOpd i with
    | some (.slice e), some x, some i => (sizeK P e).map fun s => .indexS s x i
    | some (.array n e), some x, some i => (sizeK P e).map fun s => .indexA n s x i
    | _, _, _ => none
  | .field t x i => match P.underlying t, cOpd x with
    | some (.struct fs), some x => (fs[i]?).bind fun f => (partK P f.type).map fun k => .field k f.offset x
    | _, _ => none
  | .index t x i => match P.underlying t, cOpd x, cOpd i with
    | some (.array n e), some x, some i => match partK P e, sizeK P e with
      | some k, some s => some (.indexV n k s x i)
      | _, _ => none
    | _, _, _ => none
  | .binOp op t xo yo _ => match cOpd xo, cOpd yo with
    | some x, some y =>
      if isIntT P t then some (.bin op x y)
      else match op with
        | .eql => cNil P false t xo yo x (cEqv P false t x y)
        | .neq => cNil P true t xo yo x (cEqv P true t x y)
        | _ => none
    | _, _ => none
  | .unOp op _ x => (cOpd x).map (.un op)
  | .convert s d x => match P.underlying s, P.underlying d, cOpd x with
    | some (.int _), some (.int k), some x => some (.conv k x)
    | _, _, _ => none
  | .makeSlice t l c => match P.underlying t, cOpd l, cOpd c with
    | some (.slice e), some l, some c => match P.info? e, zeroK P e with
      | some i, some z => if i.size == 0 then none else some (.mkS i.size i.bytes z l c)
      | _, _ => none
    | _, _, _ => none
  | .slice t x lo hi none => match P.underlying t, cOpd x, cOpt lo, cOpt hi with
    | some (.slice e), some x, some lo, some hi => (sizeK P e).map fun s => .sl s x lo hi
    | _, _, _, _ => none
  | .slice t x lo (some hi) (some mx) => match P.underlying t, cOpd x, cOpt lo, cOpd hi, cOpd mx with
    | some (.slice e), some x, some lo, some hi, some mx => (sizeK P e).map fun s => .sl3 s x lo hi mx
    | _, _, _, _, _ => none
  | .extract x i => (cOpd x).map fun x => .ext x i
  | .makeFunc (.func f) first caps => match cOpds first.toList, cOpds caps.toList with
    | some a, some b => some (.mkF f a b)
    | _, _ => none
  | .call c => match c.callee, cOpds c.args.toList with
    | .builtin b, some args => cBuiltin P b c.argTypes args
    | .value (.func f), some args => some (.call f args)
    | .value g, some args => (cOpd g).map fun g => .callv g args
    | _, _ => none
  | _ => none
/-- The slots that an operation looks at. -/
def usesO (ops : Array Oper) (o : Oper) : List Tmp := o.looksAt ops
/-- In a region that draws its order: whoever writes a slot, and whoever looks at it or writes it too, stand in one order; edges lead back. -/
def slotsOK (ops : Array Oper) : Bool :=
  let b := Region.before ops
  (ops.toList.zipIdx.all fun p => ops.toList.zipIdx.all fun q => !(decide (q.2 < p.2)) || (b.getD p.2 0).testBit q.2 || q.1.apart ops p.1) &&
  (ops.toList.zipIdx.all fun p => p.1.after.toList.all fun e => !Region.binds .any e || decide (e.on < p.2))
/-- What is looked at is looked at in the model. -/
def usesOK (ops : Array Oper) : List Oper → List IOp → Bool
  | o :: os, io :: ios => (io.op.args.all fun x => match x with
    | .t n => (o.looksAt ops).contains n
    | .c _ => true) && usesOK ops os ios
  | _, _ => true
def cOper (P : Program) (ops : Array Oper) (bef : Nat) (o : Oper) : Option IOp :=
  match o.guard with
  | none => some ⟨o.dst, (cOp P o.op).getD .bad, none, bef⟩
  | some (j, want) => match (ops[j]?).bind (·.dst) with
    | some t => some ⟨o.dst, (cOp P o.op).getD .bad, some (t, want), bef⟩
    | none => none
def cOpers (P : Program) (ops : Array Oper) : List Oper → Nat → Option (List IOp)
  | [], _ => some []
  | o :: os, i => match cOper P ops ((Region.before ops).getD i 0) o, cOpers P ops os (i + 1) with
    | some a, some as => some (a :: as)
    | _, _ => none
def cCode (P : Program) : Code → Option IC
  | .skip => some .skip
  | .region _ ops draw => match cOpers P ops ops.toList 0 with
    | some os => if draw then (if slotsOK ops && usesOK ops ops.toList os then some (.region os true) else none) else some (.region os false)
    | none => none
  | .seq a b => match cCode P a, cCode P b with
    | some a, some b => some (.seq a b)
    | _, _ => none
  | .cond c a b => match cOpd c, cCode P a, cCode P b with
    | some c, some a, some b => some (.cond c a b)
    | _, _, _ => none
  | .block id c => (cCode P c).map (.block id)
  | .loop c => (cCode P c).map .loop
  | .exit id => some (.exit id)
  | .ret => some .ret
  | .scope c => (cCode P c).map .scope
  | .label _ => some .skip
  | .rangeFunc g ps a b => match cOpd g, cCode P a, cCode P b with
    | some g, some a, some b => some (.rangeF g ps.toList a b)
    | _, _, _ => none
  | _ => none
def cRes (P : Program) : ResultVar → Option IRes
  | .tmp t => some (.t t)
  | .cell a t => (partK P t).map (.cell a)
def cRess (P : Program) : List ResultVar → Option (List IRes)
  | [] => some []
  | r :: rs => match cRes P r, cRess P rs with
    | some a, some as => some (a :: as)
    | _, _ => none
def cFn (P : Program) (byref : Bool) (f : FuncId) : Option IFn :=
  match P.funcs[f]? with
  | none => none
  | some fn =>
    if fn.name == "runtime.NumGoroutine" then none else
    match fn.body with
    | none => none
    | some c => match cCode P c, cRess P fn.results.toList with
      | some c, some rs => some ⟨fn.ntmps, rs, c, byref⟩
      | _, _ => none
end Go.V
/- The evaluator's memory, and how its values and memory stand to the model's world. -/
set_option linter.unusedVariables false
set_option linter.unusedSimpArgs false
namespace Go.V
open Go.RowKit

structure Loc where
  blk : Nat
  base : Nat
  sz : Nat
abbrev Phi := Nat → Option Loc

inductive Rep (w : World) (S : Nat → Prop) : Phi → AV → Value → Prop
  | int {φ k n} : Rep w S φ (.int k n) (.int k n)
  | bool {φ b} : Rep w S φ (.bool b) (.bool b)
  | str {φ s} : Rep w S φ (.str s) (.string s)
  | agg {φ cs vs} (hl : vs.size = cs.length) (h : ∀ (i : Nat) c v, cs[i]? = some c → vs[i]? = some v → Rep w S φ c v) : Rep w S φ (.agg cs) (.agg vs)
  | tup {φ cs vs} (hl : vs.size = cs.length) (h : ∀ (i : Nat) c v, cs[i]? = some c → vs[i]? = some v → Rep w S φ c v) : Rep w S φ (.tup cs) (.tuple vs)
  | lst {φ sz xs b base cap} (vals : Nat → Nat → Value) (hs : ∀ x ∈ xs, x.length = sz ∧ x.all AV.one = true) (hS : S b) (hl : xs.length ≤ cap)
      (hc : ∀ (i j : Nat) x c, xs[i]? = some x → x[j]? = some c → w.cell? ⟨b, base + i * sz + j, none⟩ = some (vals i j))
      (hr : ∀ (i j : Nat) x c, xs[i]? = some x → x[j]? = some c → Rep w S (fun _ => none) c (vals i j)) : Rep w S φ (.lst sz xs) (.slice (some ⟨b, base, none⟩) xs.length cap)
  | lstNil {φ sz a cap} : Rep w S φ (.lst sz []) (.slice a 0 cap)
  | ptrL {φ sz xs b base i j} (vals : Nat → Nat → Value) (hs : ∀ x ∈ xs, x.length = sz ∧ x.all AV.one = true) (hS : S b)
      (hc : ∀ (i j : Nat) x c, xs[i]? = some x → x[j]? = some c → w.cell? ⟨b, base + i * sz + j, none⟩ = some (vals i j))
      (hr : ∀ (i j : Nat) x c, xs[i]? = some x → x[j]? = some c → Rep w S (fun _ => none) c (vals i j)) : Rep w S φ (.ptrL sz xs i j) (.pointer (some ⟨b, base + i * sz + j, none⟩))
  | own {φ id off len loc cap e n} (hφ : φ id = some loc) (hsh : w.shape? loc.blk = some (e, n)) (hn : loc.base + (off + cap) * loc.sz ≤ n) (hl : len ≤ cap) :
      Rep w S φ (.own id off len) (.slice (some ⟨loc.blk, loc.base + off * loc.sz, none⟩) len cap)
  | ptr {φ id i j loc} (hφ : φ id = some loc) : Rep w S φ (.ptr id i j) (.pointer (some ⟨loc.blk, loc.base + i * loc.sz + j, none⟩))
  | emp {φ z a cap} (h : z = true → cap = 0) : Rep w S φ (.emp z) (.slice (some a) 0 cap)
  | nilS {φ} : Rep w S φ .nilS (.slice none 0 0)
  | nilP {φ} : Rep w S φ .nilP (.pointer none)
  | nilF {φ} : Rep w S φ .nilF .nilFunc
  | fn {φ f first caps vf vc} (hl : vf.size = first.length) (h : ∀ (i : Nat) c v, first[i]? = some c → vf[i]? = some v → Rep w S φ c v)
      (hl' : vc.size = caps.length) (h' : ∀ (i : Nat) c v, caps[i]? = some c → vc[i]? = some v → Rep w S φ c v) : Rep w S φ (.fn f first caps) (.func (.func f) vf vc)
  | yld {φ id loc} (hφ : φ id = some loc) : Rep w S φ (.yld id) (.func (.yield loc.blk) #[] #[])

/-- Lists of values. -/
def Reps (w : World) (S : Nat → Prop) (φ : Phi) (cs : List AV) (vs : Array Value) : Prop := vs.size = cs.length ∧ ∀ (i : Nat) c v, cs[i]? = some c → vs[i]? = some v → Rep w S φ c v

theorem Rep.mono {w w' : World} {S S' : Nat → Prop} (hS : ∀ b, S b → S' b) (hk : ∀ b, S b → w'.heap[b]? = w.heap[b]?) (hsh : ∀ b e n, w.shape? b = some (e, n) → w'.shape? b = some (e, n)) {φ φ' : Phi} {a : AV} {v : Value} (h : Rep w S φ a v) :
    (∀ id loc, φ id = some loc → φ' id = some loc) → Rep w' S' φ' a v := by
  induction h generalizing φ' with
  | int => intro _; exact .int
  | bool => intro _; exact .bool
  | str => intro _; exact .str
  | agg hl _ ih => intro hφ; exact .agg hl fun i c v h1 h2 => ih i c v h1 h2 hφ
  | tup hl _ ih => intro hφ; exact .tup hl fun i c v h1 h2 => ih i c v h1 h2 hφ
  | lst vals hs h1 hl hc hr ih =>
    intro _
    exact .lst vals hs (hS _ h1) hl (fun i j x c e1 e2 => by rw [← hc i j x c e1 e2]; exact World.cell?_of_block (hk _ h1)) (fun i j x c e1 e2 => ih i j x c e1 e2 (fun id loc e => by cases e))
  | lstNil => intro _; exact .lstNil
  | ptrL vals hs h1 hc hr ih =>
    intro _
    exact .ptrL vals hs (hS _ h1) (fun i j x c e1 e2 => by rw [← hc i j x c e1 e2]; exact World.cell?_of_block (hk _ h1)) (fun i j x c e1 e2 => ih i j x c e1 e2 (fun id loc e => by cases e))
  | own h1 h2 h3 h4 => intro hφ; exact .own (hφ _ _ h1) (hsh _ _ _ h2) h3 h4
  | ptr h1 => intro hφ; exact .ptr (hφ _ _ h1)
  | emp h => intro _; exact .emp h
  | nilS => intro _; exact .nilS
  | nilP => intro _; exact .nilP
  | nilF => intro _; exact .nilF
  | fn hl _ hl' _ ih ih' => intro hφ; exact .fn hl (fun i c v h1 h2 => ih i c v h1 h2 hφ) hl' (fun i c v h1 h2 => ih' i c v h1 h2 hφ)
  | yld h1 => intro hφ; exact .yld (hφ _ _ h1)

/-- Blocks of the evaluator's memory: rows; the record of a loop over a function; where the deferred calls of its rounds would lie. -/
inductive Blk where
  | row (sz : Nat) (xs : List (List AV))
  | loop (env : List AV) (ps : List Nat) (a b : IC) (st : LoopState) (pend : Ex) (d : Nat)
  | mark
  deriving Inhabited
abbrev Mem := Nat → Option Blk
def Ex.code : Ex → Option Code
  | .normal => none
  | .exit id => some (.exit id)
  | .ret => some .ret

def SimBlk (P : Program) (w : World) (S : Nat → Prop) (φ : Phi) (loc : Loc) : Blk → Prop
  | .row sz xs => loc.sz = sz ∧ (∀ x ∈ xs, x.length = sz) ∧ ∃ c e, w.heap[loc.blk]? = some (.cells c e (0, 0)) ∧ loc.base + xs.length * sz ≤ c.size ∧
      ∀ (i j : Nat) x a, xs[i]? = some x → x[j]? = some a → a.one = true ∧ ∃ v, c[loc.base + i * sz + j]? = some v ∧ Rep w S φ a v
  | .loop env ps a b st pend d => ∃ r : Loop, w.heap[loc.blk]? = some (.loop r) ∧ Reps w S φ env r.tmps ∧ r.params.toList = ps ∧ cCode P r.assign = some a ∧ cCode P r.body = some b ∧ r.state = st ∧ r.pending = pend.code ∧ ∃ ld, φ d = some ld ∧ r.defers = ld.blk
  | .mark => w.heap[loc.blk]? = some (.deferred (some []))
theorem SimBlk.lt {P : Program} {w : World} {S : Nat → Prop} {φ : Phi} {loc : Loc} {b : Blk} (h : SimBlk P w S φ loc b) : loc.blk < w.heap.size := by
  cases b with
  | row s ys => exact (Array.getElem?_eq_some_iff.1 h.2.2.choose_spec.choose_spec.1).1
  | loop => obtain ⟨r, h, -⟩ := h; exact (Array.getElem?_eq_some_iff.1 h).1
  | mark => exact (Array.getElem?_eq_some_iff.1 h).1

structure Sim (P : Program) (S : Nat → Prop) (φ : Phi) (h : Mem) (w : World) : Prop where
  blk : ∀ id b, h id = some b → ∃ loc, φ id = some loc ∧ SimBlk P w S φ loc b ∧ ¬ S loc.blk
  inj : ∀ id id' b b' loc loc', h id = some b → h id' = some b' → φ id = some loc → φ id' = some loc' → loc.blk = loc'.blk → id = id'
  bd : ∀ b, S b → b < w.heap.size
variable {P : Program}

def Own (φ : Phi) (h : Mem) (b : Nat) : Prop := ∃ id x loc, h id = some x ∧ φ id = some loc ∧ loc.blk = b

/-- What a step leaves as it was. -/
structure Adv (S : Nat → Prop) (φ : Phi) (h : Mem) (w : World) (S' : Nat → Prop) (φ' : Phi) (h' : Mem) (w' : World) : Prop where
  phi : ∀ id loc, φ id = some loc → φ' id = some loc
  up : ∀ b, S b → S' b
  new : ∀ b, S' b → S b ∨ w.heap.size ≤ b
  os : w'.os = w.os
  tape : w'.tape = w.tape
  output : w'.output = w.output
  size : w.heap.size ≤ w'.heap.size
  keep : ∀ b, b < w.heap.size → ¬ Own φ h b → w'.heap[b]? = w.heap[b]?
  own : ∀ b, Own φ' h' b → Own φ h b ∨ w.heap.size ≤ b
  shape : ∀ b e n, w.shape? b = some (e, n) → w'.shape? b = some (e, n)

theorem Adv.refl (S : Nat → Prop) (φ : Phi) (h : Mem) (w : World) : Adv S φ h w S φ h w :=
  ⟨fun _ _ e => e, fun _ e => e, fun _ e => .inl e, rfl, rfl, rfl, Nat.le_refl _, fun _ _ _ => rfl, fun _ e => .inl e, fun _ _ _ e => e⟩
theorem Adv.trans {S S' S'' : Nat → Prop} {φ φ' φ'' : Phi} {h h' h'' : Mem} {w w' w'' : World} (p : Adv S φ h w S' φ' h' w') (q : Adv S' φ' h' w' S'' φ'' h'' w'') : Adv S φ h w S'' φ'' h'' w'' where
  phi id loc e := q.phi _ _ (p.phi _ _ e)
  up b e := q.up _ (p.up _ e)
  new b e := by
    rcases q.new b e with h1 | h1
    · exact p.new b h1
    · exact .inr (Nat.le_trans p.size h1)
  os := q.os.trans p.os
  tape := q.tape.trans p.tape
  output := q.output.trans p.output
  size := Nat.le_trans p.size q.size
  keep b hb hn := by
    rw [q.keep b (Nat.lt_of_lt_of_le hb p.size) (fun ho => by
      rcases p.own b ho with h1 | h1
      · exact hn h1
      · omega), p.keep b hb hn]
  own b ho := by
    rcases q.own b ho with h1 | h1
    · exact p.own b h1
    · exact .inr (Nat.le_trans p.size h1)
  shape b e n hs := q.shape _ _ _ (p.shape _ _ _ hs)
theorem Sim.notOwn {S : Nat → Prop} {φ : Phi} {h : Mem} {w : World} (hs : Sim P S φ h w) {b : Nat} (hb : S b) : ¬ Own φ h b := by
  rintro ⟨id, x, loc, h1, h2, h3⟩
  obtain ⟨loc', e, -, hn⟩ := hs.blk id x h1
  rw [h2] at e; cases e
  exact hn (h3 ▸ hb)
theorem Adv.rep {S S' : Nat → Prop} {φ φ' : Phi} {h h' : Mem} {w w' : World} (p : Adv S φ h w S' φ' h' w') (hs : Sim P S φ h w) {a : AV} {v : Value} (hr : Rep w S φ a v) : Rep w' S' φ' a v :=
  hr.mono p.up (fun b hb => p.keep b (hs.bd b hb) (hs.notOwn hb)) p.shape p.phi
theorem Adv.reps {S S' : Nat → Prop} {φ φ' : Phi} {h h' : Mem} {w w' : World} (p : Adv S φ h w S' φ' h' w') (hs : Sim P S φ h w) {cs : List AV} {vs : Array Value} (hr : Reps w S φ cs vs) : Reps w' S' φ' cs vs :=
  ⟨hr.1, fun i c v h1 h2 => p.rep hs (hr.2 i c v h1 h2)⟩
theorem SimBlk.adv {S S' : Nat → Prop} {φ φ' : Phi} {h h' : Mem} {w w' : World} (p : Adv S φ h w S' φ' h' w') (hs : Sim P S φ h w) {loc : Loc} {b : Blk} (hb : SimBlk P w S φ loc b) (hk : w'.heap[loc.blk]? = w.heap[loc.blk]?) : SimBlk P w' S' φ' loc b := by
  cases b with
  | row s ys =>
    obtain ⟨f1, f2, c, e, f3, f4, f5⟩ := hb
    exact ⟨f1, f2, c, e, hk.trans f3, f4, fun i j x a g1 g2 => by obtain ⟨o1, v, r1, r2⟩ := f5 i j x a g1 g2; exact ⟨o1, v, r1, p.rep hs r2⟩⟩
  | loop env ps a b st pend d =>
    obtain ⟨r, f1, f2, f3, f4, f5, f6, f7, ld, f8, f9⟩ := hb
    exact ⟨r, hk.trans f1, p.reps hs f2, f3, f4, f5, f6, f7, ld, p.phi _ _ f8, f9⟩
  | mark => exact hk.trans hb
theorem Sim.lt {S : Nat → Prop} {φ : Phi} {h : Mem} {w : World} (hs : Sim P S φ h w) {id : Nat} {b : Blk} {loc : Loc} (h1 : h id = some b) (h2 : φ id = some loc) : loc.blk < w.heap.size := by
  obtain ⟨l', q1, q2, -⟩ := hs.blk id b h1
  rw [h2] at q1; cases q1
  exact q2.lt
/-- For whoever owned nothing: all that was stays. -/
theorem Adv.below {S S' : Nat → Prop} {φ φ' : Phi} {h h' : Mem} {w w' : World} (p : Adv S φ h w S' φ' h' w') (hn : ∀ b, ¬ Own φ h b) : Below w.heap.size w w' :=
  ⟨p.os, p.tape, p.output, p.size, fun b hb => p.keep b hb (hn b)⟩
end Go.V
/- The evaluator: how it runs. -/
set_option linter.unusedVariables false
set_option linter.unusedSimpArgs false
namespace Go.V
open Go.RowKit

/-! Memory -/
structure Heap where
  l : List (Option Blk)
  nx : Nat
  deriving Inhabited
def noH : Heap := ⟨[], 0⟩
def hget (H : Heap) (id : Nat) : Option Blk :=
  match H.l[id]? with
  | some (some b) => some b
  | _ => none
def hsetL : List (Option Blk) → Nat → Option Blk → List (Option Blk)
  | [], 0, b => [b]
  | [], n + 1, b => none :: hsetL [] n b
  | _ :: H, 0, b => b :: H
  | x :: H, n + 1, b => x :: hsetL H n b
abbrev Wr := List (Nat × Option Blk)
def wrL (l : List (Option Blk)) (wr : Wr) : List (Option Blk) := wr.foldl (fun l p => hsetL l p.1 p.2) l
def wrH (H : Heap) (wr : Wr) (nx : Nat) : Heap := ⟨wrL H.l wr, max H.nx nx⟩

def undefA : AV := .tup []
def arg (env : List AV) : Arg → AV
  | .t n => env.getD n undefA
  | .c v => v
def AV.cells : AV → List AV
  | .agg cs => cs
  | v => [v]
/-- So many cells of an element, from a place on: an aggregate, or the one cell. -/
def part (n : Option Nat) (x : List AV) (j : Nat) : Option AV :=
  match n with
  | none => x[j]?
  | some n => if j + n ≤ x.length then some (.agg ((x.drop j).take n)) else none
def put (x : List AV) (j : Nat) (cs : List AV) : Option (List AV) := if j + cs.length ≤ x.length then some (x.take j ++ cs ++ x.drop (j + cs.length)) else none
def fillA (env : List AV) : List (Nat × Nat × Arg) → List AV → Option (List AV)
  | [], cs => some cs
  | (off, size, x) :: ps, cs => if (arg env x).cells.length = size ∧ (arg env x).cells.all AV.one = true then (put cs off (arg env x).cells).bind (fillA env ps) else none
def fillS (env : List AV) (sz : Nat) : List (Nat × Arg) → List (List AV) → Option (List (List AV))
  | [], xs => some xs
  | (i, x) :: ps, xs => if (arg env x).cells.length = sz ∧ (arg env x).cells.all AV.one = true ∧ i < xs.length then fillS env sz ps (xs.set i (arg env x).cells) else none
/-- What a slice holds. -/
def elems (H : Heap) (sz : Nat) : AV → Option (List (List AV) × List Nat)
  | .nilS => some ([], [])
  | .emp _ => some ([], [])
  | .lst s xs => if s = sz then some (xs, []) else none
  | .own id off len =>
    match hget H id with
    | some (.row s xs) => if s = sz ∧ off + len ≤ xs.length then some ((xs.drop off).take len, [id]) else none
    | _ => none
  | _ => none
/-- Equal: of a truth, or of a number. -/
def eqA (k : Bool) : AV → AV → Option Bool
  | .int i a, .int i' b => if k = false ∧ i = i' then some (a == b) else none
  | .bool a, .bool b => if k = true then some (a == b) else none
  | _, _ => none
def eqL : List Bool → List AV → List AV → Option Bool
  | [], [], [] => some true
  | k :: ks, a :: as, b :: bs => match eqA k a b with
    | some true => eqL ks as bs
    | some false => some false
    | none => none
  | _, _, _ => none
def binA (op : BinOp) : AV → AV → Option AV
  | .int k a, .int k' b =>
    match op with
    | .shl => if 0 ≤ b then some (.int k (k.wrap (a * 2 ^ min b.toNat k.bits))) else none
    | .shr => if 0 ≤ b then some (.int k (a.fdiv (2 ^ min b.toNat k.bits))) else none
    | _ => if k = k' then
        match op with
        | .add => some (.int k (k.wrap (a + b)))
        | .sub => some (.int k (k.wrap (a - b)))
        | .mul => some (.int k (k.wrap (a * b)))
        | .quo => if b = 0 then none else some (.int k (k.wrap (a.tdiv b)))
        | .rem => if b = 0 then none else some (.int k (a.tmod b))
        | .eql => some (.bool (a == b))
        | .neq => some (.bool (a != b))
        | .lss => some (.bool (decide (a < b)))
        | .leq => some (.bool (decide (a ≤ b)))
        | .gtr => some (.bool (decide (a > b)))
        | .geq => some (.bool (decide (a ≥ b)))
        | _ => none
      else none
  | _, _ => none
def unA (op : UnOp) : AV → Option AV
  | .bool b => match op with
    | .not => some (.bool !b)
    | _ => none
  | .int k n => match op with
    | .neg => some (.int k (k.wrap (0 - n)))
    | _ => none
  | _ => none
def idx : AV → Nat → Option Nat
  | .int _ i, n => if 0 ≤ i ∧ i < n then some i.toNat else none
  | _, _ => none
/-- A bound of a slice. -/
def bnd (env : List AV) (d most : Nat) : Option Arg → Option Nat
  | none => some d
  | some x => match arg env x with
    | .int _ i => if 0 ≤ i ∧ i ≤ most then some i.toNat else none
    | _ => none
def mxA (max : Bool) : AV → AV → Option AV
  | .int k x, .int _ y => some (.int k (if max then (if y > x then y else x) else (if y < x then y else x)))
  | _, _ => none
def mxL (max : Bool) : AV → List AV → Option AV
  | x, [] => some x
  | x, y :: ys => (mxA max x y).bind fun z => mxL max z ys

/-! Calls: arguments as they may be read; results as nobody else knows them. -/
/-- No memory at all. -/
def AV.flat1 : AV → Bool
  | .int .. | .bool _ | .str _ | .nilS | .nilP | .nilF => true
  | _ => false
def AV.flat : AV → Bool
  | .agg cs => cs.all AV.flat1
  | v => v.flat1
/-- No place of the evaluator's memory is named. -/
def AV.noId : AV → Bool
  | .int .. | .bool _ | .str _ | .lst .. | .ptrL .. | .emp _ | .nilS | .nilP | .nilF => true
  | .fn _ a b => a.all AV.flat && b.all AV.flat
  | _ => false
def reifyW (f : AV → Option (AV × List Nat)) : List AV → Option (List AV × List Nat)
  | [] => some ([], [])
  | v :: vs => match f v, reifyW f vs with
    | some (a, r), some (as, rs) => some (a :: as, r ++ rs)
    | _, _ => none
def reifyWW (f : AV → Option (AV × List Nat)) : List (List AV) → Option (List (List AV) × List Nat)
  | [] => some ([], [])
  | x :: xs => match reifyW f x, reifyWW f xs with
    | some (a, r), some (as, rs) => some (a :: as, r ++ rs)
    | _, _ => none
def reifyD (H : Heap) : Nat → AV → Option (AV × List Nat)
  | 0, v => if v.noId then some (v, []) else none
  | d + 1, v => match v with
    | .own _ _ 0 => some (.emp false, [])
    | .own id off len =>
      match hget H id with
      | some (.row s xs) => if off + len ≤ xs.length then (reifyWW (reifyD H d) ((xs.drop off).take len)).map fun p => (.lst s p.1, id :: p.2) else none
      | _ => none
    | v => if v.noId then some (v, []) else none
def reifyC (H : Heap) (v : AV) : Option (AV × List Nat) := reifyD H 4 v
def reifyL (H : Heap) : List AV → Option (List AV × List Nat)
  | [] => some ([], [])
  | v :: vs => match reifyC H v, reifyL H vs with
    | some (a, r), some (as, rs) => some (a :: as, r ++ rs)
    | _, _ => none
def reify (H : Heap) : AV → Option (AV × List Nat)
  | .agg cs => (reifyL H cs).map fun p => (.agg p.1, p.2)
  | v => reifyC H v
def reifyArgs (H : Heap) : List AV → Option (List AV × List Nat)
  | [] => some ([], [])
  | v :: vs => match reify H v, reifyArgs H vs with
    | some (a, r), some (as, rs) => some (a :: as, r ++ rs)
    | _, _ => none
/-- A result's cell, as nobody else knows it; the blocks that it is of. -/
def detachC (H : Heap) : AV → Option (AV × List Nat)
  | .own id off len =>
    match hget H id with
    | some (.row s xs) => if off + len ≤ xs.length ∧ (((xs.drop off).take len).all (fun x => x.all AV.noId)) = true then some (.fresh s ((xs.drop off).take len), [id]) else none
    | _ => none
  | v => if v.noId then some (v, []) else none
def detachL (H : Heap) : List AV → Option (List AV × List Nat)
  | [] => some ([], [])
  | v :: vs => match detachC H v, detachL H vs with
    | some (a, r), some (as, rs) => some (a :: as, r ++ rs)
    | _, _ => none
def detach1 (H : Heap) : AV → Option (AV × List Nat)
  | .agg cs => (detachL H cs).map fun p => (.agg p.1, p.2)
  | v => detachC H v
def detachM (H : Heap) : List AV → Option (List AV × List Nat)
  | [] => some ([], [])
  | v :: vs => match detach1 H v, detachM H vs with
    | some (a, r), some (as, rs) => some (a :: as, r ++ rs)
    | _, _ => none
def detach (H : Heap) : AV → Option (AV × List Nat)
  | .tup cs => (detachM H cs).map fun p => (.tup p.1, p.2)
  | v => detach1 H v
def attachC (nx : Nat) : AV → AV × Wr × Nat
  | .fresh s xs => (.own nx 0 xs.length, [(nx, some (.row s xs))], nx + 1)
  | v => (v, [], nx)
def attachL (nx : Nat) : List AV → List AV × Wr × Nat
  | [] => ([], [], nx)
  | v :: vs =>
    let p := attachC nx v
    let q := attachL p.2.2 vs
    (p.1 :: q.1, p.2.1 ++ q.2.1, q.2.2)
def attach1 (nx : Nat) : AV → AV × Wr × Nat
  | .agg cs => let p := attachL nx cs; (.agg p.1, p.2.1, p.2.2)
  | v => attachC nx v
def attachM (nx : Nat) : List AV → List AV × Wr × Nat
  | [] => ([], [], nx)
  | v :: vs =>
    let p := attach1 nx v
    let q := attachM p.2.2 vs
    (p.1 :: q.1, p.2.1 ++ q.2.1, q.2.2)
def attach (nx : Nat) : AV → AV × Wr × Nat
  | .tup cs => let p := attachM nx cs; (.tup p.1, p.2.1, p.2.2)
  | v => attach1 nx v
def hasLstL : List AV → Bool
  | [] => false
  | .lst .. :: _ | .ptrL .. :: _ => true
  | _ :: cs => hasLstL cs
def AV.hasLst0 : AV → Bool
  | .lst .. | .ptrL .. => true
  | .fresh _ xs => xs.any hasLstL
  | _ => false
def AV.hasLst1 : AV → Bool
  | .agg cs => cs.any AV.hasLst0
  | v => v.hasLst0
def AV.hasLst : AV → Bool
  | .tup vs => vs.any AV.hasLst1
  | v => v.hasLst1

inductive OpR where
  | eff (v : AV) (rd : List Nat) (wr : Wr) (nx : Nat)
  | whole (v : AV) (H : Heap)
/-- What is called: a function; a function on arguments that name none of the evaluator's memory, its result nobody else's; a round of a loop. -/
inductive Cal where
  | fn (f : FuncId)
  | pu (f : FuncId)
  | yl (id : Nat)
abbrev Cb := Cal → List AV → Heap → Option (AV × Heap)
def callOp (T : FuncId → Option IFn) (cb : Cb) (f : FuncId) (args : List AV) (H : Heap) (nx : Nat) : Option OpR :=
  match T f with
  | none => none
  | some fn =>
    if fn.byref then (cb (.fn f) args H).map fun p => .whole p.1 p.2
    else match reifyArgs H args with
      | some (args', rd) =>
        match cb (.pu f) args' noH with
        | some (t, _) => if rd = [] ∨ t.hasLst = false then let p := attach nx t; some (.eff p.1 rd p.2.1 p.2.2) else none
        | none => none
      | none => none
def evalOp (T : FuncId → Option IFn) (cb : Cb) (env : List AV) (H : Heap) (nx : Nat) : PO → Option OpR
  | .mv x => some (.eff (arg env x) [] [] nx)
  | .pick c a b => match arg env c with
    | .bool c => some (.eff (if c then arg env a else arg env b) [] [] nx)
    | _ => none
  | .new cells => if cells.all AV.one then some (.eff (.ptr nx 0 0) [] [(nx, some (.row cells.length [cells]))] (nx + 1)) else none
  | .box x => let cs := (arg env x).cells; if cs.all AV.one then some (.eff (.ptr nx 0 0) [] [(nx, some (.row cs.length [cs]))] (nx + 1)) else none
  | .build zero parts => (fillA env parts zero).map fun cs => .eff (.agg cs) [] [] nx
  | .buildS sz n zero parts => if n * sz ≤ 16777216 ∧ zero.length = sz ∧ zero.all AV.one = true then
      (fillS env sz parts (List.replicate n zero)).map fun xs => .eff (.own nx 0 n) [] [(nx, some (.row sz xs))] (nx + 1) else none
  | .load n x => match arg env x with
    | .ptr id i j => match hget H id with
      | some (.row _ xs) => (xs[i]?).bind fun x => (part n x j).map fun v => .eff v [id] [] nx
      | _ => none
    | .ptrL _ xs i j => (xs[i]?).bind fun x => (part n x j).map fun v => .eff v [] [] nx
    | _ => none
  | .store n x y => match arg env x with
    | .ptr id i j => match hget H id with
      | some (.row s xs) =>
        let cs := (arg env y).cells
        if cs.length = n ∧ cs.all AV.one = true then (xs[i]?).bind fun x => (put x j cs).map fun x' => .eff undefA [id] [(id, some (.row s (xs.set i x')))] nx else none
      | _ => none
    | _ => none
  | .fieldA off x => match arg env x with
    | .ptr id i j => some (.eff (.ptr id i (j + off)) [] [] nx)
    | .ptrL s xs i j => some (.eff (.ptrL s xs i (j + off)) [] [] nx)
    | _ => none
  | .indexS sz x i => match arg env x with
    | .lst s xs => if s = sz then (idx (arg env i) xs.length).map fun i => .eff (.ptrL s xs i 0) [] [] nx else none
    | .own id off len => match hget H id with
      | some (.row s xs) => if s = sz then (idx (arg env i) len).map fun i => .eff (.ptr id (off + i) 0) [id] [] nx else none
      | _ => none
    | _ => none
  | .indexA len sz x i => match arg env x with
    | .ptr id a j => (idx (arg env i) len).map fun i => .eff (.ptr id a (j + i * sz)) [] [] nx
    | .ptrL s xs a j => (idx (arg env i) len).map fun i => .eff (.ptrL s xs a (j + i * sz)) [] [] nx
    | _ => none
  | .field n off x => match arg env x with
    | .agg cs => (part n cs off).map fun v => .eff v [] [] nx
    | _ => none
  | .indexV len n sz x i => match arg env x with
    | .agg cs => (idx (arg env i) len).bind fun i => (part n cs (i * sz)).map fun v => .eff v [] [] nx
    | _ => none
  | .bin op x y => (binA op (arg env x) (arg env y)).map fun v => .eff v [] [] nx
  | .eqv neg true ks x y => match arg env x, arg env y with
    | .agg cs, .agg ds => (eqL ks cs ds).map fun b => .eff (.bool (if neg then !b else b)) [] [] nx
    | _, _ => none
  | .eqv neg false ks x y => (eqL ks [arg env x] [arg env y]).map fun b => .eff (.bool (if neg then !b else b)) [] [] nx
  | .bad => none
  | .un op x => (unA op (arg env x)).map fun v => .eff v [] [] nx
  | .conv k x => match arg env x with
    | .int _ n => some (.eff (.int k (k.wrap n)) [] [] nx)
    | _ => none
  | .mkS sz bytes zero l c => match arg env l, arg env c with
    | .int _ l, .int _ c => if 0 ≤ l ∧ l ≤ c ∧ (c + 1) * (bytes + 1) ≤ 1099511627776 ∧ zero.length = sz ∧ zero.all AV.one = true then some (.eff (.own nx 0 l.toNat) [] [(nx, some (.row sz (List.replicate c.toNat zero)))] (nx + 1)) else none
    | _, _ => none
  | .sl sz x lo hi => match arg env x with
    | .lst s xs => if s = sz then (bnd env xs.length xs.length hi).bind fun h => (bnd env 0 h lo).map fun l => .eff (if xs.isEmpty = true ∨ l < h then .lst s ((xs.drop l).take (h - l)) else .emp false) [] [] nx else none
    | .own id off len => match hget H id with
      | some (.row s xs) => if s = sz then (bnd env len len hi).bind fun h => (bnd env 0 h lo).map fun l => .eff (if l = 0 ∨ l < h then .own id (off + l) (h - l) else .emp false) [id] [] nx else none
      | _ => none
    | .emp z => (bnd env 0 0 hi).bind fun h => (bnd env 0 h lo).map fun l => .eff (.emp z) [] [] nx
    | .nilS => (bnd env 0 0 hi).bind fun h => (bnd env 0 h lo).map fun l => .eff .nilS [] [] nx
    | _ => none
  | .sl3 sz x lo hi mx => match arg env x with
    | .lst s xs => if s = sz then (bnd env 0 xs.length (some mx)).bind fun m => (bnd env 0 m (some hi)).bind fun h => (bnd env 0 h lo).map fun l =>
        .eff (if xs.isEmpty then .lst s [] else if l < h then .lst s ((xs.drop l).take (h - l)) else .emp (m == l)) [] [] nx else none
    | .own id off len => match hget H id with
      | some (.row s xs) => if s = sz then (bnd env 0 len (some mx)).bind fun m => (bnd env 0 m (some hi)).bind fun h => (bnd env 0 h lo).map fun l =>
          .eff (if l < h then .own id (off + l) (h - l) else .emp (m == l)) [id] [] nx else none
      | _ => none
    | .emp _ => (bnd env 0 0 (some mx)).bind fun m => (bnd env 0 m (some hi)).bind fun h => (bnd env 0 h lo).map fun l => .eff (.emp true) [] [] nx
    | .nilS => (bnd env 0 0 (some mx)).bind fun m => (bnd env 0 m (some hi)).bind fun h => (bnd env 0 h lo).map fun l => .eff .nilS [] [] nx
    | _ => none
  | .ext x i => match arg env x with
    | .tup vs => (vs[i]?).map fun v => .eff v [] [] nx
    | _ => none
  | .mkF f first caps => some (.eff (.fn f (first.map (arg env)) (caps.map (arg env))) [] [] nx)
  | .call f args => callOp T cb f (args.map (arg env)) H nx
  | .callv g args => match arg env g with
    | .fn f first caps => callOp T cb f (first ++ args.map (arg env) ++ caps) H nx
    | .yld id => (cb (.yl id) (args.map (arg env)) H).map fun p => .whole p.1 p.2
    | _ => none
  | .lenS x => match arg env x with
    | .lst _ xs => some (.eff (.int .i64 xs.length) [] [] nx)
    | .own _ _ len => some (.eff (.int .i64 len) [] [] nx)
    | .nilS | .emp _ => some (.eff (.int .i64 0) [] [] nx)
    | _ => none
  | .capS x => match arg env x with
    | .nilS | .emp true => some (.eff (.int .i64 0) [] [] nx)
    | _ => none
  | .isNil neg x => match arg env x with
    | .nilS => some (.eff (.bool !neg) [] [] nx)
    | .own .. | .emp _ | .lst _ (_ :: _) => some (.eff (.bool neg) [] [] nx)
    | _ => none
  | .clr sz zero x => match arg env x with
    | .nilS | .emp _ => some (.eff undefA [] [] nx)
    | .own id off len => match hget H id with
      | some (.row s xs) => if s = sz ∧ off + len ≤ xs.length ∧ zero.all AV.one = true then some (.eff undefA [id] [(id, some (.row s (xs.take off ++ List.replicate len zero ++ xs.drop (off + len))))] nx) else none
      | _ => none
    | _ => none
  | .lenC n => some (.eff (.int .i64 n) [] [] nx)
  | .app sz bytes x y => match elems H sz (arg env y) with
    | some ([], rd) => match arg env x with
      | .nilS => some (.eff .nilS rd [] nx)
      | .own id off len => some (.eff (.own id off len) rd [] nx)
      | .emp z => some (.eff (.emp z) rd [] nx)
      | _ => none
    | some (ys, rd) => match arg env x with
      | .nilS | .emp true => if (ys.length + 1) * (bytes + 1) ≤ 1099511627776 then some (.eff (.own nx 0 ys.length) rd [(nx, some (.row sz ys))] (nx + 1)) else none
      | .own id off len => match hget H id with
        | some (.row s xs) => if s = sz ∧ off + len ≤ xs.length ∧ (len + ys.length + 1) * (bytes + 1) ≤ 1099511627776 then
            some (.eff (.own nx 0 (len + ys.length)) (id :: rd) [(id, none), (nx, some (.row sz ((xs.drop off).take len ++ ys)))] (nx + 1)) else none
        | _ => none
      | _ => none
    | none => none
  | .appZ sz bytes zero x n => match arg env n with
    | .int _ 0 => match arg env x with
      | .nilS => some (.eff .nilS [] [] nx)
      | .own id off len => some (.eff (.own id off len) [] [] nx)
      | .emp z => some (.eff (.emp z) [] [] nx)
      | _ => none
    | .int _ n => if 0 ≤ n ∧ zero.length = sz ∧ zero.all AV.one = true then match arg env x with
      | .nilS | .emp true => if (n + 1) * (bytes + 1) ≤ 1099511627776 then some (.eff (.own nx 0 n.toNat) [] [(nx, some (.row sz (List.replicate n.toNat zero)))] (nx + 1)) else none
      | _ => none
      else none
    | _ => none
  | .mx max xs => match xs with
    | [] => none
    | x :: xs => (mxL max (arg env x) (xs.map (arg env))).map fun v => .eff v [] [] nx

structure St where
  env : List AV
  H : Heap
def setD (env : List AV) (dst : Option Nat) (v : AV) : List AV :=
  match dst with
  | some d => env.set d v
  | none => env
def wantedA (env : List AV) : Option (Nat × Bool) → Bool
  | none => true
  | some (j, want) => match env.getD j undefA with
    | .bool b => b == want
    | _ => false
def evalOps (T : FuncId → Option IFn) (cb : Cb) : List IOp → St → Option St
  | [], st => some st
  | o :: os, st =>
    if wantedA st.env o.guard then
      match evalOp T cb st.env st.H st.H.nx o.op with
      | some (.eff v _ wr nx) => evalOps T cb os ⟨setD st.env o.dst v, wrH st.H wr nx⟩
      | some (.whole v H) => evalOps T cb os ⟨setD st.env o.dst v, H⟩
      | none => none
    else evalOps T cb os ⟨setD st.env o.dst undefA, st.H⟩
/-- What an operation touched. -/
structure Foot where
  rd : List Nat
  wr : List Nat
def clash (a b : Foot) : Bool := a.wr.any (fun i => b.rd.contains i || b.wr.contains i) || b.wr.any (fun i => a.rd.contains i)
/-- Whether a new footprint may stand behind those that are there (the newest first, with their number). -/
def footOK (f : Foot) (bef : Nat) : Nat → List Foot → Bool
  | _, [] => true
  | 0, _ :: _ => false
  | n + 1, g :: gs => (bef.testBit n || !clash g f) && footOK f bef n gs
def evalDraw (T : FuncId → Option IFn) (cb : Cb) : List IOp → Nat → List Foot → St → Option St
  | [], _, _, st => some st
  | o :: os, n, fs, st =>
    if wantedA st.env o.guard then
      match evalOp T cb st.env st.H st.H.nx o.op with
      | some (.eff v rd wr nx) => let f : Foot := ⟨rd, wr.map (·.1)⟩; if footOK f o.bef n fs then evalDraw T cb os (n + 1) (f :: fs) ⟨setD st.env o.dst v, wrH st.H wr nx⟩ else none
      | _ => none
    else evalDraw T cb os (n + 1) (⟨[], []⟩ :: fs) ⟨setD st.env o.dst undefA, st.H⟩
/-- The state of a run: with the marks that loops over functions left. -/
structure RSt where
  st : St
  ds : List Nat
def iter (f : RSt → Option (Ex × RSt)) : Nat → RSt → Option (Ex × RSt)
  | 0, _ => none
  | n + 1, st => match f st with
    | some (.normal, st') => iter f n st'
    | r => r
/-- A loop over a function begins: its record, and, unless it stands in a round, the mark. -/
def enterH (rd : Option Nat) (H : Heap) (env : List AV) (ps : List Nat) (a b : IC) : Option (Heap × Nat × List Nat) :=
  match rd with
  | none => some (wrH H [(H.nx, some .mark), (H.nx + 1, some (.loop env ps a b .ready .normal H.nx))] (H.nx + 2), H.nx + 1, [H.nx])
  | some l => match hget H l with
    | some (.loop _ _ _ _ _ _ d) => some (wrH H [(H.nx, some (.loop env ps a b .ready .normal d))] (H.nx + 1), H.nx, [])
    | _ => none
def leaveH (env : List AV) (H : Heap) (id : Nat) (ds : List Nat) : Option (Ex × RSt) :=
  match hget H id with
  | some (.loop _ _ _ _ .busy _ _) => none
  | some (.loop _ _ _ _ _ pend _) => some (pend, ⟨⟨env, wrH H [(id, none)] 0⟩, ds⟩)
  | _ => none
def run (T : FuncId → Option IFn) (cb : Cb) (m : Nat) (rd : Option Nat) : IC → RSt → Option (Ex × RSt)
  | .skip, st => some (.normal, st)
  | .region ops draw, st => (if draw then evalDraw T cb ops 0 [] st.st else evalOps T cb ops st.st).map fun s => (.normal, ⟨s, st.ds⟩)
  | .seq a b, st => match run T cb m rd a st with
    | some (.normal, st') => run T cb m rd b st'
    | r => r
  | .cond c a b, st => match arg st.st.env c with
    | .bool true => run T cb m rd a st
    | .bool false => run T cb m rd b st
    | _ => none
  | .block id c, st => match run T cb m rd c st with
    | some (.exit id', st') => if id' = id then some (.normal, st') else some (.exit id', st')
    | r => r
  | .loop c, st => iter (run T cb m rd c) m st
  | .exit id, st => some (.exit id, st)
  | .ret, st => some (.ret, st)
  | .scope c, st => run T cb m rd c st
  | .rangeF g ps a b, st => match arg st.st.env g with
    | .fn f first caps => if (T f).isSome then match enterH rd st.st.H st.st.env ps a b with
        | some (H1, id, ds) => match cb (.fn f) (first ++ [.yld id] ++ caps) H1 with
          | some (_, H2) => leaveH st.st.env H2 id (ds ++ st.ds)
          | none => none
        | none => none
      else none
    | _ => none
  | .bad, st => none
def resV (st : St) : IRes → Option AV
  | .t n => some (st.env.getD n undefA)
  | .cell n k => match st.env.getD n undefA with
    | .ptr id i j => match hget st.H id with
      | some (.row _ xs) => (xs[i]?).bind fun x => part k x j
      | _ => none
    | _ => none
def resL (st : St) : List IRes → Option (List AV)
  | [] => some []
  | r :: rs => match resV st r, resL st rs with
    | some v, some vs => some (v :: vs)
    | _, _ => none
def takeMarks : Heap → List Nat → Option Heap
  | H, [] => some H
  | H, id :: ids => match hget H id with
    | some .mark => takeMarks (wrH H [(id, none)] 0) ids
    | _ => none
def setPs : List AV → List Nat → List AV → List AV
  | env, p :: ps, v :: vs => setPs (env.set p v) ps vs
  | env, _, _ => env
def tupV : List AV → AV
  | [v] => v
  | vs => .tup vs
def leaveF (fn : IFn) (r : RSt) : Option (AV × Heap) :=
  match takeMarks r.st.H r.ds with
  | some H => (resL ⟨r.st.env, H⟩ fn.res).map fun vs => (tupV vs, H)
  | none => none
def enterR (env : List AV) (ds : List Nat) (H : Heap) (id : Nat) : Option RSt :=
  match hget H id with
  | some (.loop env' ps a b .ready pend d) => some ⟨⟨env, wrH H [(id, some (.loop env' ps a b .busy pend d))] 0⟩, ds⟩
  | _ => none
def leaveR (ex : Ex) (H : Heap) (id : Nat) : Option (AV × Heap) :=
  match hget H id with
  | some (.loop env ps a b .busy _ d) => match ex with
    | .normal => some (.bool true, wrH H [(id, some (.loop env ps a b .ready .normal d))] 0)
    | ex => some (.bool false, wrH H [(id, some (.loop env ps a b .done ex d))] 0)
  | _ => none
def callBody (T : FuncId → Option IFn) (m : Nat) (cb : Cb) (f : FuncId) (args : List AV) (H : Heap) : Option (AV × Heap) :=
  match T f with
  | none => none
  | some fn =>
    match run T cb m none fn.body ⟨⟨args ++ List.replicate (fn.ntmps - args.length) undefA, H⟩, []⟩ with
    | some (.exit _, _) => none
    | some (_, r) => leaveF fn r
    | none => none
def pureR : Option (AV × Heap) → Option (AV × Heap)
  | some (v, H) => match detach H v with
    | some (t, ids) => if ids.Nodup then some (t, noH) else none
    | none => none
  | none => none
def callRound (T : FuncId → Option IFn) (m : Nat) (cb : Cb) (id : Nat) (args : List AV) (H : Heap) : Option (AV × Heap) :=
  match hget H id with
  | some (.loop env ps a b _ _ _) => if args.length = ps.length then
      match run T cb m (some id) a ⟨⟨setPs env ps args, H⟩, []⟩ with
      | some (.normal, r) => match enterR r.st.env r.ds r.st.H id with
        | some r' => match run T cb m (some id) b r' with
          | some (ex, r'') => leaveR ex r''.st.H id
          | none => none
        | none => none
      | _ => none
    else none
  | _ => none
/-! What is known of calls already -/
def eq0 : AV → AV → Bool
  | .int k a, .int k' b => decide (k = k') && a == b
  | .bool a, .bool b => a == b
  | .nilS, .nilS | .nilP, .nilP | .nilF, .nilF => true
  | .emp a, .emp b => a == b
  | _, _ => false
def eqLs {α : Type} (f : α → α → Bool) : List α → List α → Bool
  | [], [] => true
  | a :: as, b :: bs => f a b && eqLs f as bs
  | _, _ => false
def eqD : Nat → AV → AV → Bool
  | 0, a, b => eq0 a b
  | d + 1, a, b => match a, b with
    | .agg x, .agg y => eqLs (eqD d) x y
    | .tup x, .tup y => eqLs (eqD d) x y
    | .lst s x, .lst s' y => s == s' && eqLs (eqLs (eqD d)) x y
    | .fresh s x, .fresh s' y => s == s' && eqLs (eqLs (eqD d)) x y
    | .fn f x y, .fn g x' y' => f == g && eqLs (eqD d) x x' && eqLs (eqD d) y y'
    | a, b => eq0 a b
structure Memo where
  f : FuncId
  args : List AV
  t : AV
def findM (f : FuncId) (args : List AV) : List Memo → Option AV
  | [] => none
  | k :: ks => if k.f == f && eqLs (eqD 6) k.args args then some k.t else findM f args ks
def callFn (T : FuncId → Option IFn) (m : Nat) (L : List Memo) : Nat → Cb
  | 0 => fun _ _ _ => none
  | n + 1 => fun c args H => match c with
    | .fn f => callBody T m (callFn T m L n) f args H
    | .pu f => match findM f args L with
      | some t => some (t, noH)
      | none => pureR (callBody T m (callFn T m L n) f args noH)
    | .yl id => callRound T m (callFn T m L n) id args H
end Go.V
/- Data as it is meant: without places in memory; expressions, trees of what a function does with data, and what they mean. -/
set_option linter.unusedVariables false
set_option linter.unusedSimpArgs false
namespace Go.Q
open Go.V

/-- Data. -/
inductive D where
  | int (k : IntKind) (n : Int)
  | bool (b : Bool)
  | str (s : ByteArray)
  | node (cs : List D)
  | list (xs : List (List D))
  | nilP
  | nilF
  | fn (f : FuncId) (first caps : List D)
  deriving Inhabited
def D.unit : D := .node []
def D.cells : D → List D
  | .node cs => cs
  | d => [d]
/-- Expressions: a variable, a constant, a cell, a list of cells. -/
inductive E where
  | v (n : Nat)
  | c (d : D)
  | cell (x : E) (j : Nat)
  | node (xs : List E)
  | fn (f : FuncId) (first caps : List E)
  deriving Inhabited
mutual
def E.den (ρ : List D) : E → D
  | .v n => ρ.getD n D.unit
  | .c d => d
  | .cell x j => (x.den ρ).cells.getD j D.unit
  | .node xs => .node (denL ρ xs)
  | .fn f a b => .fn f (denL ρ a) (denL ρ b)
def denL (ρ : List D) : List E → List D
  | [] => []
  | x :: xs => x.den ρ :: denL ρ xs
end

/-! What is reckoned -/
inductive Prim where
  | bin (op : BinOp)
  | un (op : UnOp)
  | conv (k : IntKind)
  | mx (max : Bool)
  | eqv (neg : Bool) (ks : List Bool)
  | len
  | idx (sz : Nat)
  | elem (j : Nat) (n : Option Nat)
  | set (j : Nat)
  | mkS (sz bytes : Nat) (zero : List D)
  | listOf (sz n : Nat) (zero : List D) (at_ : List Nat)
  | app (sz bytes : Nat)
  | sl (sz : Nat) (lo hi : Bool)
  | isK (n : Nat)
  | appZ (sz bytes : Nat) (zero : List D)
  | clr (sz : Nat) (zero : List D)
  deriving Inhabited
def binD (op : BinOp) : D → D → Option D
  | .int k a, .int k' b =>
    match op with
    | .shl => if 0 ≤ b then some (.int k (k.wrap (a * 2 ^ min b.toNat k.bits))) else none
    | .shr => if 0 ≤ b then some (.int k (a.fdiv (2 ^ min b.toNat k.bits))) else none
    | _ => if k = k' then
        match op with
        | .add => some (.int k (k.wrap (a + b)))
        | .sub => some (.int k (k.wrap (a - b)))
        | .mul => some (.int k (k.wrap (a * b)))
        | .quo => if b = 0 then none else some (.int k (k.wrap (a.tdiv b)))
        | .rem => if b = 0 then none else some (.int k (a.tmod b))
        | .eql => some (.bool (a == b))
        | .neq => some (.bool (a != b))
        | .lss => some (.bool (decide (a < b)))
        | .leq => some (.bool (decide (a ≤ b)))
        | .gtr => some (.bool (decide (a > b)))
        | .geq => some (.bool (decide (a ≥ b)))
        | _ => none
      else none
  | _, _ => none
def unD (op : UnOp) : D → Option D
  | .bool b => match op with
    | .not => some (.bool !b)
    | _ => none
  | .int k n => match op with
    | .neg => some (.int k (k.wrap (0 - n)))
    | _ => none
  | _ => none
def mxD (max : Bool) : D → D → Option D
  | .int k x, .int _ y => some (.int k (if max then (if y > x then y else x) else (if y < x then y else x)))
  | _, _ => none
def mxLD (max : Bool) : D → List D → Option D
  | x, [] => some x
  | x, y :: ys => (mxD max x y).bind fun z => mxLD max z ys
def eqD1 (k : Bool) : D → D → Option Bool
  | .int i a, .int i' b => if k = false ∧ i = i' then some (a == b) else none
  | .bool a, .bool b => if k = true then some (a == b) else none
  | _, _ => none
def eqDL : List Bool → List D → List D → Option Bool
  | [], [], [] => some true
  | k :: ks, a :: as, b :: bs => match eqD1 k a b with
    | some true => eqDL ks as bs
    | some false => some false
    | none => none
  | _, _, _ => none
def D.idx : D → Nat → Option Nat
  | .int _ i, n => if 0 ≤ i ∧ i < n then some i.toNat else none
  | _, _ => none
def D.upto : D → Nat → Option Nat
  | .int _ i, n => if 0 ≤ i ∧ i ≤ n then some i.toNat else none
  | _, _ => none
def partD (n : Option Nat) (x : List D) (j : Nat) : Option D :=
  match n with
  | none => x[j]?
  | some n => if j + n ≤ x.length then some (.node ((x.drop j).take n)) else none
def putD (x : List D) (j : Nat) (cs : List D) : Option (List D) := if j + cs.length ≤ x.length then some (x.take j ++ cs ++ x.drop (j + cs.length)) else none
def fillD (sz : Nat) : List Nat → List D → List (List D) → Option (List (List D))
  | [], [], xs => some xs
  | i :: is, cs, xs => if sz ≤ cs.length ∧ i < xs.length then fillD sz is (cs.drop sz) (xs.set i (cs.take sz)) else none
  | _, _, _ => none
def D.den1 : Prim → List D → Option D
  | .bin op, [x, y] => binD op x y
  | .un op, [x] => unD op x
  | .conv k, [.int _ n] => some (.int k (k.wrap n))
  | .mx max, x :: xs => mxLD max x xs
  | .eqv neg ks, xs => (eqDL ks (xs.take ks.length) (xs.drop ks.length)).map fun b => .bool (if neg then !b else b)
  | .len, [.list xs] => some (.int .i64 xs.length)
  | .idx sz, [.list xs, i] => (i.idx xs.length).bind fun i => (xs[i]?).bind fun x => if x.length = sz then some .unit else none
  | .elem j n, [.list xs, i] => (i.idx xs.length).bind fun i => (xs[i]?).bind fun x => partD n x j
  | .set j, .list xs :: i :: cs => (i.idx xs.length).bind fun i => (xs[i]?).bind fun x => (putD x j cs).map fun x' => .list (xs.set i x')
  | .mkS sz bytes zero, [.int _ l, .int _ c] => if 0 ≤ l ∧ l ≤ c ∧ (c + 1) * (bytes + 1) ≤ 1099511627776 ∧ zero.length = sz then some (.list (List.replicate l.toNat zero)) else none
  | .listOf sz n zero is, cs => if n * sz ≤ 16777216 ∧ zero.length = sz then (fillD sz is cs (List.replicate n zero)).map .list else none
  | .app sz bytes, [.list xs, .list ys] => if (ys.isEmpty = true ∨ (xs.length + ys.length + 1) * (bytes + 1) ≤ 1099511627776) ∧ ys.all (fun y => y.length == sz) = true then some (.list (xs ++ ys)) else none
  | .sl sz false false, [.list xs] => if xs.all (fun y => y.length == sz) = true then some (.list xs) else none
  | .sl sz false true, [.list xs, hi] => if xs.all (fun y => y.length == sz) = true then (hi.upto xs.length).map fun h => .list (xs.take h) else none
  | .sl sz true false, [.list xs, lo] => if xs.all (fun y => y.length == sz) = true then (lo.upto xs.length).map fun l => .list (xs.drop l) else none
  | .sl sz true true, [.list xs, lo, hi] => if xs.all (fun y => y.length == sz) = true then (hi.upto xs.length).bind fun h => (lo.upto h).map fun l => .list ((xs.take h).drop l) else none
  | .appZ sz bytes zero, [.int _ n] => if 0 ≤ n ∧ (n + 1) * (bytes + 1) ≤ 1099511627776 ∧ zero.length = sz then some (.list (List.replicate n.toNat zero)) else none
  | .isK n, [.int _ i] => some (.bool (i == n))
  | .clr sz zero, [.list xs, i] => if zero.length = sz then (i.upto xs.length).map fun l => .list (xs.take l ++ List.replicate (xs.length - l) zero) else none
  | _, _ => none

/-! Trees: what is done, up to the leaves; a leaf has a number, and all that is known there by then. -/
inductive T where
  | fail
  | leaf (j : Nat)
  | op (p : Prim) (as : List E) (k : T)
  | call (f : FuncId) (as : List E) (k : T)
  | callD (g : E) (as : List E) (k : T)
  | flat (x : E) (k : T)
  | shal (n : Nat) (x : E) (k : T)
  | ite (c : E) (a b : T)
  | blk (body : T) (outs : List (List E × Nat)) (ks : List T)
  | loop (init : List E) (body : T) (outs : List (List E × Option Nat)) (ks : List T)
  deriving Inhabited
abbrev Res := Option (Nat × List D)
def iterD (f : List D → Option (Option Nat × List D)) : Nat → List D → Option (Nat × List D)
  | 0, _ => none
  | n + 1, vals => match f vals with
    | some (none, vals') => iterD f n vals'
    | some (some t, vals') => some (t, vals')
    | none => none
/-- No lists in it. -/
def D.flat0 : D → Bool
  | .list _ | .node _ => false
  | .fn _ _ _ => false
  | _ => true
def D.flat : D → Bool
  | .node cs => cs.all D.flat0
  | d => d.flat0
/-- No deeper than that. -/
def D.shal0 (n : Nat) (rec : D → Bool) : D → Bool
  | .list xs => decide (0 < n) && xs.all fun x => x.all rec
  | .node _ => false
  | _ => true
def D.shal1 : Nat → D → Bool
  | 0 => D.shal0 0 fun _ => false
  | n + 1 => D.shal0 (n + 1) (D.shal1 n)
def D.shal (n : Nat) : D → Bool
  | .node cs => cs.all (D.shal1 n)
  | d => d.shal1 n
def outOf {α : Type} (outs : List (List E × α)) : Res → Option (α × List D)
  | some (j, ρ) => (outs[j]?).map fun p => (p.2, denL ρ p.1)
  | none => none
mutual
def T.den (m : Nat) (Fs : FuncId → List D → Option D) (ρ : List D) : T → Res
  | .fail => none
  | .leaf j => some (j, ρ)
  | .op p as k => match D.den1 p (denL ρ as) with
    | some d => k.den m Fs (ρ ++ [d])
    | none => none
  | .call f as k => match Fs f (denL ρ as) with
    | some d => k.den m Fs (ρ ++ [d])
    | none => none
  | .callD g as k => match g.den ρ with
    | .fn f a b => match Fs f (a ++ denL ρ as ++ b) with
      | some d => k.den m Fs (ρ ++ [d])
      | none => none
    | _ => none
  | .flat x k => if (x.den ρ).flat then k.den m Fs ρ else none
  | .shal n x k => if (x.den ρ).shal n then k.den m Fs ρ else none
  | .ite c a b => match c.den ρ with
    | .bool b' => if b' then a.den m Fs ρ else b.den m Fs ρ
    | _ => none
  | .blk body outs ks => match outOf outs (body.den m Fs ρ) with
    | some (t, vals) => denK m Fs (ρ ++ vals) ks t
    | none => none
  | .loop init body outs ks => match iterD (fun vals => outOf outs (body.den m Fs (ρ ++ vals))) m (denL ρ init) with
    | some (t, vals) => denK m Fs (ρ ++ vals) ks t
    | none => none
def denK (m : Nat) (Fs : FuncId → List D → Option D) (ρ : List D) : List T → Nat → Res
  | [], _ => none
  | k :: _, 0 => k.den m Fs ρ
  | _ :: ks, t + 1 => denK m Fs ρ ks t
end
/-- What results are like: one cell of data; a list that nobody else has; cells; several. -/
inductive RS where
  | e
  | own (sz : Nat)
  | node (cs : List RS)
  | tup (vs : List RS)
  deriving Inhabited
/-- A function: which of its arguments fill several cells; its tree; what it returns at each leaf. -/
structure Fn where
  ps : List (Option Nat)
  tree : T
  outs : List E
  rs : RS
  deriving Inhabited
def fits : List (Option Nat) → List D → Bool
  | [], [] => true
  | none :: ps, d :: ds => (match d with | .node _ => false | _ => true) && fits ps ds
  | some n :: ps, .node cs :: ds => (cs.length == n && cs.all (fun d => match d with | .node _ => false | _ => true)) && fits ps ds
  | _, _ => false
def Fn.den (m : Nat) (Fs : FuncId → List D → Option D) (F : Fn) (ds : List D) : Option D :=
  if fits F.ps ds then match F.tree.den m Fs ds with
    | some (j, ρ) => (F.outs[j]?).map (E.den ρ)
    | none => none
  else none
end Go.Q
/- How code is gone through once for all data: values that are known in part, their memory, and the tree that comes of it. -/
set_option linter.unusedVariables false
set_option linter.unusedSimpArgs false
namespace Go.Q
open Go.V

/-- Values: one cell of data; a list that is only read (from which roots); cells; a list of one's own; places of one's own memory (a cell of a row with one element; of an element of a list), a place of a list that is only read. -/
inductive SV where
  | e (x : E)
  | fz (x : E) (rs : List Nat)
  | agg (cs : List SV)
  | tup (vs : List SV)
  | own (id : Nat)
  | nil
  | ptr (id j : Nat)
  | ptrO (id : Nat) (i : E) (j : Nat)
  | sufO (id : Nat) (lo : E)
  | ptrE (x i : E) (j : Nat) (rs : Option (List Nat))
  | fn (f : FuncId) (first caps : List SV)
  | yld (id : Nat)
  | unk
  deriving Inhabited
/-- Blocks: a row with one element; a list (deep: cells of it may be lists in memory of one's own that nobody writes any more; from which roots these are). -/
inductive SB where
  | cells (cs : List SV)
  | list (sz : Nat) (x : E) (deep : Option (List Nat))
  deriving Inhabited
/-- A block, with its root: blocks that may be one and the same behind one another have one root. -/
structure HB where
  rt : Nat
  b : Option SB
  deriving Inhabited
/-- What waits: the slots of a caller; of a loop over a function (how it stands, what is to be done behind it). -/
structure Fr where
  env : List SV
  st : LoopState
  pend : Ex
  deriving Inhabited
/-- A state: the slots; what waits; memory; how many variables there are. -/
structure SS where
  env : List SV
  stk : List Fr
  heap : List HB
  n : Nat
  deriving Inhabited

/-! Equality -/
mutual
def eqDb : D → D → Bool
  | .int k a, .int k' b => decide (k = k') && a == b
  | .bool a, .bool b => a == b
  | .nilP, .nilP => true
  | .nilF, .nilF => true
  | .node a, .node b => eqDLb a b
  | .list a, .list b => eqDLLb a b
  | .fn f a b, .fn g a' b' => f == g && eqDLb a a' && eqDLb b b'
  | _, _ => false
def eqDLb : List D → List D → Bool
  | [], [] => true
  | a :: as, b :: bs => eqDb a b && eqDLb as bs
  | _, _ => false
def eqDLLb : List (List D) → List (List D) → Bool
  | [], [] => true
  | a :: as, b :: bs => eqDLb a b && eqDLLb as bs
  | _, _ => false
end
mutual
def eqE : E → E → Bool
  | .v a, .v b => a == b
  | .c a, .c b => eqDb a b
  | .cell x i, .cell y j => i == j && eqE x y
  | .node a, .node b => eqEL a b
  | .fn f a b, .fn g a' b' => f == g && eqEL a a' && eqEL b b'
  | _, _ => false
def eqEL : List E → List E → Bool
  | [], [] => true
  | a :: as, b :: bs => eqE a b && eqEL as bs
  | _, _ => false
end
mutual
/-- All variables are below. -/
def E.upto (n : Nat) : E → Bool
  | .v k => decide (k < n)
  | .c _ => true
  | .cell x _ => x.upto n
  | .node xs => uptoL n xs
  | .fn _ a b => uptoL n a && uptoL n b
def uptoL (n : Nat) : List E → Bool
  | [] => true
  | x :: xs => x.upto n && uptoL n xs
end
mutual
/-- Variables from a number on stand for expressions. -/
def E.sub (n : Nat) (vals : List E) : E → E
  | .v k => if k < n then .v k else vals.getD (k - n) (.c D.unit)
  | .c d => .c d
  | .cell x j => .cell (x.sub n vals) j
  | .node xs => .node (subL n vals xs)
  | .fn f a b => .fn f (subL n vals a) (subL n vals b)
def subL (n : Nat) (vals : List E) : List E → List E
  | [] => []
  | x :: xs => x.sub n vals :: subL n vals xs
end
def mkCell (x : E) (j : Nat) : E :=
  match x with
  | .node xs => xs.getD j (.cell x j)
  | x => .cell x j

/-! Results of going through: a tree, and what there is at its leaves -/
structure R (α : Type) where
  t : T
  l : List α
mutual
def T.shift (k : Nat) : T → T
  | .fail => .fail
  | .leaf j => .leaf (j + k)
  | .op p as t => .op p as (t.shift k)
  | .call f as t => .call f as (t.shift k)
  | .callD g as t => .callD g as (t.shift k)
  | .flat x t => .flat x (t.shift k)
  | .shal n x t => .shal n x (t.shift k)
  | .ite c a b => .ite c (a.shift k) (b.shift k)
  | .blk body outs ks => .blk body outs (shiftL k ks)
  | .loop init body outs ks => .loop init body outs (shiftL k ks)
def shiftL (k : Nat) : List T → List T
  | [] => []
  | t :: ts => t.shift k :: shiftL k ts
end
mutual
def T.graft (us : List T) : T → T
  | .fail => .fail
  | .leaf j => us.getD j .fail
  | .op p as t => .op p as (t.graft us)
  | .call f as t => .call f as (t.graft us)
  | .callD g as t => .callD g as (t.graft us)
  | .flat x t => .flat x (t.graft us)
  | .shal n x t => .shal n x (t.graft us)
  | .ite c a b => .ite c (a.graft us) (b.graft us)
  | .blk body outs ks => .blk body outs (graftL us ks)
  | .loop init body outs ks => .loop init body outs (graftL us ks)
def graftL (us : List T) : List T → List T
  | [] => []
  | t :: ts => t.graft us :: graftL us ts
end
def R.ret {α : Type} (a : α) : R α := ⟨.leaf 0, [a]⟩
def bindL {α β : Type} (f : α → Option (R β)) : List α → Nat → Option (List T × List β)
  | [], _ => some ([], [])
  | a :: as, k => match f a with
    | some r => match bindL f as (k + r.l.length) with
      | some (ts, bs) => some (r.t.shift k :: ts, r.l ++ bs)
      | none => none
    | none => none
def R.bind {α β : Type} (r : R α) (f : α → Option (R β)) : Option (R β) :=
  match bindL f r.l 0 with
  | some (ts, bs) => some ⟨r.t.graft ts, bs⟩
  | none => none
def R.ite {α : Type} (c : E) (a b : R α) : R α := ⟨.ite c a.t (b.t.shift a.l.length), a.l ++ b.l⟩

/-! Values -/
/-- A constant. -/
def ofAV1 : AV → SV
  | .int k n => .e (.c (.int k n))
  | .bool b => .e (.c (.bool b))
  | .str s => .e (.c (.str s))
  | .nilS => .nil
  | .nilP => .e (.c .nilP)
  | .nilF => .e (.c .nilF)
  | _ => .unk
def ofAV : AV → SV
  | .agg cs => if cs.all AV.one then .agg (cs.map ofAV1) else .unk
  | .fn f [] [] => .fn f [] []
  | v => ofAV1 v
def sget (env : List SV) (n : Nat) : SV := env.getD n .unk
def sarg (env : List SV) : Arg → SV
  | .t n => sget env n
  | .c v => ofAV v
def SV.cells : SV → Option (List SV)
  | .agg cs => some cs
  | .tup _ | .unk => none
  | v => some [v]
def bget (heap : List HB) (id : Nat) : Option SB :=
  match heap[id]? with
  | some ⟨_, some b⟩ => some b
  | _ => none
def rtOf (heap : List HB) (id : Nat) : Nat := ((heap[id]?).map HB.rt).getD id
def hput (heap : List HB) (id : Nat) (b : Option SB) : List HB := heap.set id ⟨rtOf heap id, b⟩
def hnew (heap : List HB) (b : SB) : List HB := heap ++ [⟨heap.length, some b⟩]
/-- A block in place of another one. -/
def hnext (heap : List HB) (id : Nat) (b : SB) : List HB := hput heap id none ++ [⟨rtOf heap id, some b⟩]
/-- Data in a slot. -/
def dat : SV → Option E
  | .e x => some x
  | .fz x _ => some x
  | _ => none
def datL (env : List SV) : List Arg → Option (List E)
  | [] => some []
  | x :: xs => match dat (sarg env x), datL env xs with
    | some a, some b => some (a :: b)
    | _, _ => none
def datC : List SV → Option (List E)
  | [] => some []
  | v :: vs => match dat v, datC vs with
    | some a, some b => some (a :: b)
    | _, _ => none
/-- The data that a value is; the roots of the memory that it may lie in; whether it may lie in memory of one's own. -/
def toE1 (heap : List HB) : SV → Option E
  | .e x => some x
  | .fz x _ => some x
  | .own id => match bget heap id with
    | some (.list _ x _) => some x
    | _ => none
  | .nil => some (.c (.list []))
  | _ => none
def toE1L (heap : List HB) : List SV → Option (List E)
  | [] => some []
  | v :: vs => match toE1 heap v, toE1L heap vs with
    | some x, some xs => some (x :: xs)
    | _, _ => none
/-- Plain data: no list of one's own. -/
def plain1 : SV → Option E
  | .e x => some x
  | .nil => some (.c (.list []))
  | _ => none
def plainL : List SV → Option (List E)
  | [] => some []
  | v :: vs => match plain1 v, plainL vs with
    | some x, some xs => some (x :: xs)
    | _, _ => none
def plainLL : List SV → Option (List E)
  | [] => some []
  | .agg cs :: vs => match plainL cs, plainLL vs with
    | some x, some xs => some (.node x :: xs)
    | _, _ => none
  | v :: vs => match plain1 v, plainLL vs with
    | some x, some xs => some (x :: xs)
    | _, _ => none
def toE (heap : List HB) : SV → Option E
  | .agg cs => (toE1L heap cs).map .node
  | .fn f a b => match plainLL a, plainLL b with
    | some a, some b => some (.fn f a b)
    | _, _ => none
  | v => toE1 heap v
def toEL (heap : List HB) : List SV → Option (List E)
  | [] => some []
  | v :: vs => match toE heap v, toEL heap vs with
    | some x, some xs => some (x :: xs)
    | _, _ => none
def hasOwn1 : SV → Bool
  | .own _ => true
  | .fz _ _ => true
  | _ => false
def hasOwn : SV → Bool
  | .agg cs => cs.any hasOwn1
  | v => hasOwn1 v
def isDeep1 (heap : List HB) : SV → Bool
  | .own id => match bget heap id with
    | some (.list _ _ (some _)) => true
    | _ => false
  | .fz _ _ => true
  | _ => false
def isDeep (heap : List HB) : SV → Bool
  | .agg cs => cs.any (isDeep1 heap)
  | v => isDeep1 heap v
def rts1 (heap : List HB) : SV → List Nat
  | .own id => rtOf heap id :: (match bget heap id with
    | some (.list _ _ (some rs)) => rs
    | _ => [])
  | .fz _ rs => rs
  | _ => []
def rtsL (heap : List HB) : List SV → List Nat
  | [] => []
  | v :: vs => rts1 heap v ++ rtsL heap vs
def rtsV (heap : List HB) : SV → List Nat
  | .agg cs => rtsL heap cs
  | v => rts1 heap v
def rtsVL (heap : List HB) : List SV → List Nat
  | [] => []
  | v :: vs => rtsV heap v ++ rtsVL heap vs
/-- A result, as it is taken over. -/
def fromR1 (x : E) (heap : List HB) : RS → SV × List HB
  | .own sz => (.own heap.length, hnew heap (.list sz x none))
  | _ => (.e x, heap)
def fromRL (x : E) : Nat → List RS → List HB → List SV × List HB
  | _, [], heap => ([], heap)
  | j, r :: rs, heap =>
    let p := fromR1 (mkCell x j) heap r
    let q := fromRL x (j + 1) rs p.2
    (p.1 :: q.1, q.2)
def fromR2 (x : E) (heap : List HB) : RS → SV × List HB
  | .node rs => let p := fromRL x 0 rs heap; (.agg p.1, p.2)
  | r => fromR1 x heap r
def fromRM (x : E) : Nat → List RS → List HB → List SV × List HB
  | _, [], heap => ([], heap)
  | j, r :: rs, heap =>
    let p := fromR2 (mkCell x j) heap r
    let q := fromRM x (j + 1) rs p.2
    (p.1 :: q.1, q.2)
def fromR (x : E) (heap : List HB) : RS → SV × List HB
  | .tup rs => let p := fromRM x 0 rs heap; (.tup p.1, p.2)
  | r => fromR2 x heap r
/-- The one-cell parts of a result that are no list of its own. -/
def flats1 (x : E) : RS → List E
  | .own _ => []
  | .e => [x]
  | _ => []
def flatsL (x : E) : Nat → List RS → List E
  | _, [] => []
  | j, r :: rs => flats1 (mkCell x j) r ++ flatsL x (j + 1) rs
def flats2 (x : E) : RS → List E
  | .node rs => flatsL x 0 rs
  | r => flats1 x r
def flatsM (x : E) : Nat → List RS → List E
  | _, [] => []
  | j, r :: rs => flats2 (mkCell x j) r ++ flatsM x (j + 1) rs
def flatsR (x : E) : RS → List E
  | .tup rs => flatsM x 0 rs
  | r => flats2 x r
def addFlat : List E → T → T
  | [], t => t
  | x :: xs, t => .flat x (addFlat xs t)
/-- The lists of a result that are nobody else's. -/
def owns1 (x : E) : RS → List E
  | .own _ => [x]
  | _ => []
def ownsL (x : E) : Nat → List RS → List E
  | _, [] => []
  | j, r :: rs => owns1 (mkCell x j) r ++ ownsL x (j + 1) rs
def owns2 (x : E) : RS → List E
  | .node rs => ownsL x 0 rs
  | r => owns1 x r
def ownsM (x : E) : Nat → List RS → List E
  | _, [] => []
  | j, r :: rs => owns2 (mkCell x j) r ++ ownsM x (j + 1) rs
def ownsR (x : E) : RS → List E
  | .tup rs => ownsM x 0 rs
  | r => owns2 x r
def addShal (n : Nat) : List E → T → T
  | [], t => t
  | x :: xs, t => .shal n x (addShal n xs t)

/-! One operation -/
/-- What an operation reckons first. -/
inductive Em where
  | none
  | prim (p : Prim) (as : List E)
  | call (f : FuncId) (as : List E) (sh pre fl so : List E)
  | callD (g : E) (as : List E) (sh pre fl so : List E)
structure Ef where
  em : Em
  v : SV
  rd : List Nat
  wr : List Nat
  heap : List HB
def constE : E → Option D
  | .c d => some d
  | _ => none
def constL : List E → Option (List D)
  | [] => some []
  | x :: xs => match constE x, constL xs with
    | some d, some ds => some (d :: ds)
    | _, _ => none
/-- A prim, reckoned at once if all is constant. -/
def emP (p : Prim) (as : List E) (n : Nat) : Em × E :=
  match (match constL as with
    | some ds => D.den1 p ds
    | none => none) with
  | some d => (.none, .c d)
  | none => (.prim p as, .v n)
def plainE (S : SS) (v : SV) : Ef := ⟨.none, v, [], [], S.heap⟩
def pure1 (S : SS) (p : Prim) (as : List E) : Ef :=
  let q := emP p as S.n
  ⟨q.1, .e q.2, [], [], S.heap⟩
def subs {α : Type} (cs : List α) (off n : Nat) : Option (List α) := if off + n ≤ cs.length then some ((cs.drop off).take n) else none
def partS (n : Option Nat) (cs : List SV) (j : Nat) : Option SV :=
  match n with
  | none => cs[j]?
  | some n => (subs cs j n).map .agg
def putS (cs : List SV) (j : Nat) (xs : List SV) : Option (List SV) := if j + xs.length ≤ cs.length then some (cs.take j ++ xs ++ cs.drop (j + xs.length)) else none
def fillV (env : List SV) : List (Nat × Nat × Arg) → List SV → Option (List SV)
  | [], cs => some cs
  | (off, size, x) :: ps, cs => match (sarg env x).cells with
    | some xs => if xs.length = size then (putS cs off xs).bind (fillV env ps) else none
    | none => none
def constIx : SV → Option Nat
  | .e (.c (.int _ i)) => if 0 ≤ i then some i.toNat else none
  | _ => none
/-- What is put into an element: lists of one's own are written no more from then on. -/
structure Put where
  es : List E
  rs : Option (List Nat)
  fz : List Nat
def put1 (heap : List HB) : SV → Option Put
  | .e x => some ⟨[x], none, []⟩
  | .nil => some ⟨[.c (.list [])], none, []⟩
  | .fz x rs => some ⟨[x], some rs, []⟩
  | .own id => match bget heap id with
    | some (.list _ x none) => some ⟨[x], some [rtOf heap id], [id]⟩
    | some (.list _ x (some rs)) => some ⟨[x], some (rtOf heap id :: rs), [id]⟩
    | _ => none
  | _ => none
def addR : Option (List Nat) → Option (List Nat) → Option (List Nat)
  | none, b => b
  | a, none => a
  | some a, some b => some (a ++ b)
def putL (heap : List HB) : List SV → Option Put
  | [] => some ⟨[], none, []⟩
  | v :: vs => match put1 heap v, putL heap vs with
    | some p, some q => some ⟨p.es ++ q.es, addR p.rs q.rs, p.fz ++ q.fz⟩
    | _, _ => none
def freeze : List HB → List Nat → List HB
  | heap, [] => heap
  | heap, id :: ids => freeze (hput heap id none) ids
def partsE (env : List SV) (heap : List HB) (sz : Nat) : List (Nat × Arg) → Option (List Nat × Put)
  | [] => some ([], ⟨[], none, []⟩)
  | (i, x) :: ps => match (sarg env x).cells.bind (putL heap), partsE env heap sz ps with
    | some p, some (is, q) => if p.es.length = sz then some (i :: is, ⟨p.es ++ q.es, addR p.rs q.rs, p.fz ++ q.fz⟩) else none
    | _, _ => none
/-- What an element's place gives. -/
def elem1 (rs : Option (List Nat)) (x : E) : SV :=
  match rs with
  | none => .e x
  | some rs => .fz x rs
def elemV (rs : Option (List Nat)) (x : E) : Option Nat → SV
  | none => elem1 rs x
  | some n => .agg ((List.range n).map fun j => elem1 rs (mkCell x j))
def optS (env : List SV) : Option Arg → Option (List E)
  | none => some []
  | some x => (dat (sarg env x)).map fun y => [y]
def zeroD (zero : List AV) : List D := zero.map fun v => match ofAV1 v with
  | .e (.c d) => d
  | .nil => .list []
  | _ => .unit
def okZero (zero : List AV) : Bool := zero.all fun v => match ofAV1 v with
  | .e (.c _) => true
  | .nil => true
  | _ => false
/-- A list, made anew. -/
def mkList (S : SS) (sz : Nat) (p : Prim) (as : List E) (heap : List HB) (deep : Option (List Nat)) (rd : List Nat) : Ef :=
  let q := emP p as S.n
  ⟨q.1, .own heap.length, rd, [heap.length], hnew heap (.list sz q.2 deep)⟩
/-- A list in place of another one. -/
def nextList (S : SS) (id sz : Nat) (p : Prim) (as : List E) (deep : Option (List Nat)) (rd : List Nat) : Ef :=
  let q := emP p as S.n
  let r := rtOf S.heap id
  ⟨q.1, .own S.heap.length, r :: rd, [r], hnext S.heap id (.list sz q.2 deep)⟩
def deepOf (heap : List HB) : SV → Option (List Nat)
  | .own id => match bget heap id with
    | some (.list _ _ dp) => dp
    | _ => none
  | .fz _ rs => some rs
  | _ => none
def appS (S : SS) (sz bytes : Nat) (x : SV) (cy : E) (dy : Option (List Nat)) (ry : List Nat) : Option Ef :=
  match x with
  | .nil => some (mkList S sz (.app sz bytes) [.c (.list []), cy] S.heap dy ry)
  | .own id => match bget S.heap id with
    | some (.list s cx dx) => if s = sz then some (nextList S id s (.app sz bytes) [cx, cy] (addR dx dy) ry) else none
    | _ => none
  | _ => none
def noDup : List Nat → Bool
  | [] => true
  | i :: is => !is.contains i && noDup is
def doOp (S : SS) : PO → Option Ef
  | .mv x => some (plainE S (sarg S.env x))
  | .pick c a b => match sarg S.env c with
    | .e (.c (.bool true)) => some (plainE S (sarg S.env a))
    | .e (.c (.bool false)) => some (plainE S (sarg S.env b))
    | _ => none
  | .new cells => if cells.all AV.one then some ⟨.none, .ptr S.heap.length 0, [], [S.heap.length], hnew S.heap (.cells (cells.map ofAV1))⟩ else none
  | .box x => (sarg S.env x).cells.map fun cs => ⟨.none, .ptr S.heap.length 0, [], [S.heap.length], hnew S.heap (.cells cs)⟩
  | .build zero parts => if zero.all AV.one then (fillV S.env parts (zero.map ofAV1)).map fun cs => plainE S (.agg cs) else none
  | .buildS sz n zero parts => match partsE S.env S.heap sz parts with
    | some (is, p) => if okZero zero && noDup p.fz then some (mkList S sz (.listOf sz n (zeroD zero) is) p.es (freeze S.heap p.fz) p.rs []) else none
    | none => none
  | .load n x => match sarg S.env x with
    | .ptr id j => match bget S.heap id with
      | some (.cells cs) => (partS n cs j).map fun v => ⟨.none, v, [rtOf S.heap id], [], S.heap⟩
      | _ => none
    | .ptrO id i j => match bget S.heap id with
      | some (.list _ x dp) => let q := emP (.elem j n) [x, i] S.n; some ⟨q.1, elemV dp q.2 n, [rtOf S.heap id], [], S.heap⟩
      | _ => none
    | .ptrE x i j rs => let q := emP (.elem j n) [x, i] S.n; some ⟨q.1, elemV rs q.2 n, rs.getD [], [], S.heap⟩
    | _ => none
  | .store n x y => match sarg S.env x, (sarg S.env y).cells with
    | .ptr id j, some ys => match bget S.heap id with
      | some (.cells cs) => if ys.length = n then (putS cs j ys).map fun cs' => ⟨.none, .unk, [rtOf S.heap id], [rtOf S.heap id], hput S.heap id (some (.cells cs'))⟩ else none
      | _ => none
    | .ptrO id i j, some ys => match bget S.heap id, plainL ys with
      | some (.list sz x dp), some es => if es.length = n then let q := emP (.set j) (x :: i :: es) S.n; some ⟨q.1, .unk, [rtOf S.heap id], [rtOf S.heap id], hput S.heap id (some (.list sz q.2 dp))⟩ else none
      | _, _ => none
    | _, _ => none
  | .fieldA off x => match sarg S.env x with
    | .ptr id j => some (plainE S (.ptr id (j + off)))
    | .ptrO id i j => some (plainE S (.ptrO id i (j + off)))
    | .ptrE x i j rs => some (plainE S (.ptrE x i (j + off) rs))
    | _ => none
  | .indexS sz x i => match sarg S.env x, dat (sarg S.env i) with
    | .own id, some i => match bget S.heap id with
      | some (.list s y _) => if s = sz then let q := emP (.idx sz) [y, i] S.n; some ⟨q.1, .ptrO id i 0, [rtOf S.heap id], [], S.heap⟩ else none
      | _ => none
    | .e y, some i => let q := emP (.idx sz) [y, i] S.n; some ⟨q.1, .ptrE y i 0 none, [], [], S.heap⟩
    | .fz y rs, some i => let q := emP (.idx sz) [y, i] S.n; some ⟨q.1, .ptrE y i 0 (some rs), rs, [], S.heap⟩
    | _, _ => none
  | .indexA len sz x i => match sarg S.env x, constIx (sarg S.env i) with
    | .ptr id j, some i => if i < len then some (plainE S (.ptr id (j + i * sz))) else none
    | .ptrO id i' j, some i => if i < len then some (plainE S (.ptrO id i' (j + i * sz))) else none
    | .ptrE x i' j rs, some i => if i < len then some (plainE S (.ptrE x i' (j + i * sz) rs)) else none
    | _, _ => none
  | .field n off x => match sarg S.env x with
    | .agg cs => (partS n cs off).map (plainE S)
    | _ => none
  | .indexV len n sz x i => match sarg S.env x, constIx (sarg S.env i) with
    | .agg cs, some i => if i < len then (partS n cs (i * sz)).map (plainE S) else none
    | _, _ => none
  | .bin op x y => match dat (sarg S.env x), dat (sarg S.env y) with
    | some a, some b => some (pure1 S (.bin op) [a, b])
    | _, _ => none
  | .eqv neg true ks x y => match sarg S.env x, sarg S.env y with
    | .agg cs, .agg ds => match datC cs, datC ds with
      | some a, some b => if a.length = ks.length then some (pure1 S (.eqv neg ks) (a ++ b)) else none
      | _, _ => none
    | _, _ => none
  | .eqv neg false ks x y => match dat (sarg S.env x), dat (sarg S.env y) with
    | some a, some b => if ks.length = 1 then some (pure1 S (.eqv neg ks) [a, b]) else none
    | _, _ => none
  | .un op x => (dat (sarg S.env x)).map fun a => pure1 S (.un op) [a]
  | .conv k x => (dat (sarg S.env x)).map fun a => pure1 S (.conv k) [a]
  | .mkS sz bytes zero l c => match dat (sarg S.env l), dat (sarg S.env c) with
    | some l, some c => if okZero zero then some (mkList S sz (.mkS sz bytes (zeroD zero)) [l, c] S.heap none []) else none
    | _, _ => none
  | .sl sz x lo hi => match optS S.env lo, optS S.env hi with
    | some l, some h => match sarg S.env x with
      | .nil => match l ++ h with
        | [] => some (plainE S .nil)
        | [.c (.int _ 0)] => some (plainE S .nil)
        | _ => none
      | .e y => some (pure1 S (.sl sz (!l.isEmpty) (!h.isEmpty)) (y :: (l ++ h)))
      | .own id => match bget S.heap id with
        | some (.list s y dp) => if s = sz ∧ l.isEmpty = true then some (nextList S id s (.sl sz false (!h.isEmpty)) (y :: h) dp []) else match l, h with
          | [lo], [] => if s = sz then let q := emP (.sl sz true false) [y, lo] S.n; some ⟨q.1, .sufO id lo, [rtOf S.heap id], [], S.heap⟩ else none
          | _, _ => none
        | _ => none
      | _ => none
    | _, _ => none
  | .sl3 sz x none hi mx => match sarg S.env x, sarg S.env hi, sarg S.env mx with
    | .e y, .e (.c (.int _ 0)), .e (.c (.int _ 0)) => some (mkList S sz (.sl sz false true) [y, .c (.int .i64 0)] S.heap none [])
    | _, _, _ => none
  | .clr sz zero x => match sarg S.env x with
    | .sufO id lo => match bget S.heap id with
      | some (.list s y dp) => if s = sz ∧ okZero zero = true then let q := emP (.clr sz (zeroD zero)) [y, lo] S.n; some ⟨q.1, .unk, [rtOf S.heap id], [rtOf S.heap id], hput S.heap id (some (.list s q.2 dp))⟩ else none
      | _ => none
    | _ => none
  | .ext x i => match sarg S.env x with
    | .tup vs => (vs[i]?).map (plainE S)
    | _ => none
  | .mkF f first caps => some (plainE S (.fn f (first.map (sarg S.env)) (caps.map (sarg S.env))))
  | .lenS x => match sarg S.env x with
    | .nil => some (plainE S (.e (.c (.int .i64 0))))
    | v => (toE1 S.heap v).map fun y => { pure1 S .len [y] with rd := rts1 S.heap v }
  | .lenC n => some (plainE S (.e (.c (.int .i64 n))))
  | .app sz bytes x y => match sarg S.env y with
    | .nil => match sarg S.env x with
      | .nil => some (plainE S .nil)
      | .own id => some (plainE S (.own id))
      | _ => none
    | .e cy => appS S sz bytes (sarg S.env x) cy none []
    | .own id' => match bget S.heap id' with
      | some (.list s cy dy) => if s = sz then appS S sz bytes (sarg S.env x) cy dy [rtOf S.heap id'] else none
      | _ => none
    | _ => none
  | .appZ sz bytes zero x n => match sarg S.env x, dat (sarg S.env n) with
    | .nil, some n => if okZero zero then some (mkList S sz (.appZ sz bytes (zeroD zero)) [n] S.heap none []) else none
    | _, _ => none
  | .capS x => match sarg S.env x with
    | .nil => some (plainE S (.e (.c (.int .i64 0))))
    | _ => none
  | .mx max xs => if 2 ≤ xs.length then (datL S.env xs).map fun es => pure1 S (.mx max) es else none
  | .isNil neg x => match sarg S.env x with
    | .nil => some (plainE S (.e (.c (.bool !neg))))
    | _ => none
  | _ => none
abbrev Tab := FuncId → Option IFn
abbrev Shp := FuncId → Option RS
def setS (env : List SV) (dst : Option Nat) (v : SV) : List SV :=
  match dst with
  | some d => env.set d v
  | none => env
def emT (em : Em) (t : T) : T :=
  match em with
  | .none => t
  | .prim p as => .op p as t
  | .call f as sh pre fl so => addShal 4 sh (addFlat pre (.call f as (addFlat fl (addShal 1 so t))))
  | .callD g as sh pre fl so => addShal 4 sh (addFlat pre (.callD g as (addFlat fl (addShal 1 so t))))
def emN (em : Em) (n : Nat) : Nat :=
  match em with
  | .none => n
  | _ => n + 1
def shalOf (heap : List HB) : List SV → List E → List E
  | v :: vs, x :: xs => if isDeep heap v then x :: shalOf heap vs xs else shalOf heap vs xs
  | _, _ => []
/-- What a function keeps must be flat. -/
def preOf : List E → List E
  | .fn _ a b :: xs => a ++ b ++ preOf xs
  | _ :: xs => preOf xs
  | [] => []
def callPu (S : SS) (f : FuncId) (rs : RS) (args : List SV) : Option Ef :=
  match toEL S.heap args with
  | some es =>
    let x := E.v S.n
    let p := fromR x S.heap rs
    some ⟨.call f es (shalOf S.heap args es) (preOf es) (if args.any hasOwn then flatsR x rs else []) (if args.any hasOwn then ownsR x rs else []), p.1, rtsVL S.heap args, (List.range p.2.length).drop S.heap.length, p.2⟩
  | none => none
def callDyn (S : SS) (g : E) (args : List SV) : Option Ef :=
  match toEL S.heap args with
  | some es => some ⟨.callD g es (shalOf S.heap args es) (preOf es) [E.node [E.v S.n]] [], .e (.v S.n), rtsVL S.heap args, [], S.heap⟩
  | none => none
/-- An index of an array that is not known: how many there are. -/
def forkOf (S : SS) : PO → Option (Nat × E)
  | .indexA len sz x i => match sarg S.env x, sarg S.env i with
    | .ptr _ _, .e (.c _) => none
    | .ptr _ _, .e y => if len ≤ 16 then some (len, y) else none
    | _, _ => none
  | .indexV len _ _ x i => match sarg S.env x, sarg S.env i with
    | .agg _, .e (.c _) => none
    | .agg _, .e y => if len ≤ 16 then some (len, y) else none
    | _, _ => none
  | _ => none
def atK (k : Nat) : PO → PO
  | .indexA len sz x _ => .indexA len sz x (.c (.int .i64 k))
  | .indexV len n sz x _ => .indexV len n sz x (.c (.int .i64 k))
  | o => o
/-- Calls of what works on the caller's memory. -/
abbrev SCb := Cal → List SV → SS → Option (R (SV × SS))
inductive OpS where
  | ef (f : Ef)
  | ref (c : Cal) (args : List SV)
def stepOp (Tb : Tab) (Sh : Shp) (S : SS) : PO → Option OpS
  | .call f args => match Tb f with
    | some fn => if fn.byref then some (.ref (.fn f) (args.map (sarg S.env))) else (Sh f).bind fun rs => (callPu S f rs (args.map (sarg S.env))).map .ef
    | none => none
  | .callv g args => match sarg S.env g with
    | .fn f first caps => match Tb f with
      | some fn => if fn.byref then some (.ref (.fn f) (first ++ args.map (sarg S.env) ++ caps)) else (Sh f).bind fun rs => (callPu S f rs (first ++ args.map (sarg S.env) ++ caps)).map .ef
      | none => none
    | .yld id => some (.ref (.yl id) (args.map (sarg S.env)))
    | .e g => (callDyn S g (args.map (sarg S.env))).map .ef
    | _ => none
  | o => (doOp S o).map .ef

/-! What is looked at later: only to forget the rest -/
abbrev Mask := Nat
def mOf (l : List Nat) : Mask := l.foldl (fun m i => m ||| (1 <<< i)) 0
def mHas (m : Mask) (i : Nat) : Bool := m.testBit i
def mDel (m : Mask) (i : Nat) : Mask := if m.testBit i then m ^^^ (1 <<< i) else m
def mArgs (l : List Arg) : Mask := l.foldl (fun m a => match a with
  | .t n => m ||| (1 <<< n)
  | .c _ => m) 0
def mOp (o : IOp) (out : Mask) : Mask :=
  let out := match o.dst with
    | some d => mDel out d
    | none => out
  let out := out ||| mArgs o.op.args
  match o.guard with
  | some (j, _) => out ||| (1 <<< j)
  | none => out
def mOps : List IOp → Mask → Mask
  | [], out => out
  | o :: os, out => mOp o (mOps os out)
def mLook (id : Nat) : List (Nat × Mask) → Mask
  | [] => 0
  | (i, m) :: l => if i = id then m else mLook id l
def live (exits : List (Nat × Mask)) (rt : Mask) : IC → Mask → Mask
  | .skip, out => out
  | .region ops _, out => mOps ops out
  | .seq a b, out => live exits rt a (live exits rt b out)
  | .cond c a b, out => mArgs [c] ||| live exits rt a out ||| live exits rt b out
  | .block id c, out => live ((id, out) :: exits) rt c out
  | .loop c, _ => let m := live exits rt c 0; let m := live exits rt c m; m ||| live exits rt c m
  | .exit id, _ => mLook id exits
  | .ret, _ => rt
  | .scope c, out => live exits rt c out
  | .rangeF g ps a b, out => let rd := fun m => live exits rt a (live exits rt b m); let m := rd out ||| out; let m := rd m ||| m; mArgs [g] ||| m
  | .bad, _ => 0
def prune (m : Mask) : Nat → List SV → List SV
  | _, [] => []
  | i, v :: vs => (if mHas m i then v else .unk) :: prune m (i + 1) vs
def pruneS (m : Mask) (S : SS) : SS := { S with env := prune m 0 S.env }
end Go.Q
