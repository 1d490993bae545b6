/- The evaluator's values, its code, and how code of the model is read into it. -/
import Derived.RangeFuncRecord
import Derived.OrdersIn
import Derived.Below
import Derived.Laws.Cells
import Derived.Laws.CopyRow
set_option linter.unusedVariables false
set_option linter.unusedSimpArgs false
namespace Go.V
open Go.RowKit

/-- Values. 'map': a map of the evaluator's own memory; 'mapL': a map that nobody writes; 'pan': only as a call's result: it panicked. 'lst': a slice over memory that nobody writes: its content. 'own': a slice over a block of the evaluator's own memory. 'emp': no elements, and not nil; with true: no room. 'fresh': only in results: a slice whose block nobody else knows. -/
inductive AV where
  | int (k : IntKind) (n : Int)
  | bool (b : Bool)
  | str (s : ByteArray)
  | agg (cs : List AV)
  | tup (vs : List AV)
  | lst (sz : Nat) (xs : List (List AV))
  | ptrL (sz : Nat) (xs : List (List AV)) (i j : Nat)
  | own (id off len : Nat)
  | ptr (id i j : Nat)
  | emp (z : Bool)
  | nilS
  | nilP
  | nilF
  | fn (f : FuncId) (first caps : List AV)
  | yld (id : Nat)
  | fresh (sz : Nat) (xs : List (List AV))
  | map (id : Nat)
  | mapN
  | mapL (ks vs : List AV)
  | ifc (t : TypeId) (v : AV)
  | ifcN
  | pan (v : Value)
  | sub (id i j sz len : Nat)
  | clp (id off len : Nat)
  deriving Inhabited

/-! Lists, read and stored into: by recursors, so that the kernel unfolds less. -/
noncomputable def nthK {α : Type} (z : α) (l : List α) (n : Nat) : α := @List.rec α (fun _ => Nat → α) (fun _ => z) (fun a _ ih n => @Nat.rec (fun _ => α) a (fun m _ => ih m) n) l n
def nthI {α : Type} (z : α) (l : List α) (n : Nat) : α := l.getD n z
theorem nthK_eq {α : Type} (z : α) : ∀ (l : List α) (n : Nat), nthK z l n = l.getD n z
  | [], n => by simp [nthK]
  | a :: l, 0 => rfl
  | a :: l, n + 1 => by show nthK z l n = _; rw [nthK_eq z l n]; simp
@[csimp] theorem nthK_csimp : @nthK = @nthI := by funext α z l n; exact nthK_eq z l n
noncomputable def setKG {α : Type} (v : α) (l : List α) : Nat → (List α → List α) → List α := @List.rec α (fun _ => Nat → (List α → List α) → List α) (fun _ k => k []) (fun a as ih n k => @Nat.rec (fun _ => List α) (k (v :: as)) (fun m _ => ih m (fun as' => k (a :: as'))) n) l
noncomputable def setK {α : Type} (l : List α) (n : Nat) (v : α) : List α := setKG v l n (fun l => l)
def setI {α : Type} (l : List α) (n : Nat) (v : α) : List α := l.set n v
theorem setKG_eq {α : Type} (v : α) : ∀ (l : List α) (n : Nat) (k : List α → List α), setKG v l n k = k (l.set n v)
  | [], n, k => rfl
  | a :: l, 0, k => rfl
  | a :: l, n + 1, k => by show setKG v l n (fun as' => k (a :: as')) = _; rw [setKG_eq v l n]; rfl
theorem setK_eq {α : Type} (l : List α) (n : Nat) (v : α) : setK l n v = l.set n v := setKG_eq v l n _
@[csimp] theorem setK_csimp : @setK = @setI := by funext α l n v; exact setK_eq l n v

/-- A value that fills one cell. -/
def AV.one : AV → Bool
  | .agg _ | .tup _ | .fresh _ _ | .pan _ => false
  | _ => true


/-! Code -/
/-- Keys of maps: numbers, truths, strings. -/
inductive KK where
  | int (k : IntKind)
  | bool
  | str
  deriving Inhabited
inductive Arg where
  | t (n : Nat)
  | c (v : AV)
  deriving Inhabited
inductive PO where
  | mv (x : Arg)
  | pick (c a b : Arg)
  | new (cells : List AV)
  | box (x : Arg)
  | build (zero : List AV) (parts : List (Nat × Nat × Arg))
  | buildS (sz n : Nat) (zero : List AV) (parts : List (Nat × Arg))
  | load (n : Option Nat) (x : Arg)
  | store (n : Nat) (x y : Arg)
  | fieldA (off : Nat) (x : Arg)
  | indexS (sz : Nat) (x i : Arg)
  | indexA (len sz : Nat) (x i : Arg)
  | field (n : Option Nat) (off : Nat) (x : Arg)
  | indexV (len : Nat) (n : Option Nat) (sz : Nat) (x i : Arg)
  | bin (op : BinOp) (x y : Arg)
  | eqv (neg agg : Bool) (ks : List Bool) (x y : Arg)
  | un (op : UnOp) (x : Arg)
  | conv (k : IntKind) (x : Arg)
  | mkS (sz bytes : Nat) (zero : List AV) (l c : Arg)
  | sl (sz : Nat) (x : Arg) (lo hi : Option Arg)
  | sl3 (sz : Nat) (x : Arg) (lo : Option Arg) (hi mx : Arg)
  | ext (x : Arg) (i : Nat)
  | mkF (f : FuncId) (first caps : List Arg)
  | call (f : FuncId) (args : List Arg)
  | callv (f : Arg) (args : List Arg)
  | lenS (x : Arg)
  | lenC (n : Nat)
  | app (sz bytes : Nat) (x y : Arg)
  | appZ (sz bytes : Nat) (zero : List AV) (x n : Arg)
  | capS (x : Arg)
  | isNil (neg : Bool) (x : Arg)
  | clr (sz : Nat) (zero : List AV) (x : Arg)
  | mx (max : Bool) (xs : List Arg)
  | mkM
  | look (kk : KK) (zero : AV) (ok : Bool) (m k : Arg)
  | mset (kk : KK) (m k x : Arg)
  | ment (kk : KK) (zero : AV) (m k : Arg)
  | mest (m s x : Arg)
  | mdel (kk : KK) (m k : Arg)
  | lenM (m : Arg)
  | mkI (t : TypeId) (x : Arg)
  | inv (tbl : List (TypeId × FuncId)) (x : Arg) (args : List Arg)
  | tas (t : TypeId) (ok : Option AV) (x : Arg)
  | isNilI (neg : Bool) (x : Arg)
  | cpy (sz : Nat) (x y : Arg)
  | nck (x : Arg)
  | strX (x i : Arg)
  | bstr (x : Arg)
  | eqS (neg : Bool) (x y : Arg)
  | slA (sz n : Nat) (x : Arg) (hi : Option Arg)
  | dfr (f : Arg) (args : List Arg)
  | pnc (x : Arg)
  | rcv
  | bad
  deriving Inhabited
structure IOp where
  dst : Option Nat
  op : PO
  guard : Option (Nat × Bool)
  bef : Nat
  deriving Inhabited
inductive IC where
  | skip
  | region (ops : List IOp) (draw : Bool)
  | seq (a b : IC)
  | cond (c : Arg) (a b : IC)
  | block (id : Nat) (c : IC)
  | loop (c : IC)
  | exit (id : Nat)
  | ret
  | scope (c : IC)
  | rangeF (g : Arg) (ps : List Nat) (a b : IC)
  | bad
  deriving Inhabited
inductive Ex where
  | normal
  | exit (id : Nat)
  | ret
  | pan (v : Value)
  deriving Inhabited
inductive IRes where
  | t (n : Nat)
  | cell (n : Nat) (k : Option Nat)
  deriving Inhabited
structure IFn where
  ntmps : Nat
  res : List IRes
  body : IC
  byref : Bool
  /-- In a region that draws its order a call by reference is: 0: made on the memory that its arguments lead to; 1: made on no memory; 2: ordered with all that touches memory. -/
  dm : Nat
  deriving Inhabited

def optArgs (x : Option Arg) : List Arg := x.toList
def PO.args : PO → List Arg
  | .mv x | .box x | .load _ x | .fieldA _ x | .field _ _ x | .un _ x | .conv _ x | .ext x _ | .lenS x | .capS x | .isNil _ x | .clr _ _ x => [x]
  | .pick c a b => [c, a, b]
  | .new _ | .lenC _ | .bad => []
  | .build _ ps => ps.map (·.2.2)
  | .buildS _ _ _ ps => ps.map (·.2)
  | .store _ x y | .indexS _ x y | .indexA _ _ x y | .indexV _ _ _ x y | .bin _ x y | .eqv _ _ _ x y | .mkS _ _ _ x y | .app _ _ x y | .appZ _ _ _ x y => [x, y]
  | .sl _ x lo hi => x :: (optArgs lo ++ optArgs hi)
  | .sl3 _ x lo hi m => x :: hi :: m :: optArgs lo
  | .mkF _ a b => a ++ b
  | .call _ as => as
  | .callv g as => g :: as
  | .mx _ xs => xs
  | .mkM | .rcv => []
  | .look _ _ _ m k | .ment _ _ m k | .mdel _ m k => [m, k]
  | .mset _ m k x | .mest m k x => [m, k, x]
  | .lenM x | .mkI _ x | .tas _ _ x | .isNilI _ x | .pnc x | .nck x | .bstr x => [x]
  | .strX x i | .cpy _ x i | .eqS _ x i => [x, i]
  | .slA _ _ x hi => x :: optArgs hi
  | .inv _ x as | .dfr x as => x :: as


/-! How code is read -/
def ofValue1 : Value → Option AV
  | .bool b => some (.bool b)
  | .int k n => some (.int k n)
  | .string s => some (.str s)
  | .pointer none => some .nilP
  | .slice none 0 0 => some .nilS
  | .nilFunc => some .nilF
  | .map none => some .mapN
  | .nilIface => some .ifcN
  | _ => none
def ofCells : List Value → Option (List AV)
  | [] => some []
  | v :: vs => match ofValue1 v, ofCells vs with
    | some a, some as => some (a :: as)
    | _, _ => none
def ofValue : Value → Option AV
  | .agg cs => (ofCells cs.toList).map .agg
  | v => ofValue1 v
def cOpd : Operand → Option Arg
  | .tmp t => some (.t t)
  | .const v => (ofValue v).map .c
  | .func f => some (.c (.fn f [] []))
  | .global _ => none
def cOpds : List Operand → Option (List Arg)
  | [] => some []
  | x :: xs => match cOpd x, cOpds xs with
    | some a, some as => some (a :: as)
    | _, _ => none
def cOpt : Option Operand → Option (Option Arg)
  | none => some none
  | some x => (cOpd x).map some
def isAggD : TypeDesc → Bool
  | .struct _ | .array _ _ => true
  | _ => false
/-- How a value of a type lies in cells. -/
def partK (P : Program) (t : TypeId) : Option (Option Nat) :=
  match P.underlying t, P.info? t with
  | some d, some i => if isAggD d then some (some i.size) else some none
  | _, _ => none
def sizeK (P : Program) (t : TypeId) : Option Nat := (P.info? t).map (·.size)
def zeroK (P : Program) (t : TypeId) : Option (List AV) := ((P.info? t).bind (·.zero)).bind fun v => ofCells v.cells.toList
def placesK (P : Program) (d : TypeDesc) (i : Nat) : Option (Nat × Nat) :=
  match d with
  | .struct fs => (fs[i]?).bind fun f => (sizeK P f.type).map fun s => (f.offset, s)
  | .array _ e => (sizeK P e).map fun s => (i * s, s)
  | _ => none
def allSized (P : Program) (fs : List Field) : Bool := fs.all fun f => (sizeK P f.type).isSome
def partsOK (P : Program) (d : TypeDesc) : Bool :=
  match d with
  | .struct fs => allSized P fs.toList
  | .array _ e => (sizeK P e).isSome
  | _ => false
def cParts (P : Program) (d : TypeDesc) : List (Nat × Operand) → Option (List (Nat × Nat × Arg))
  | [] => some []
  | (i, x) :: ps => match placesK P d i, cOpd x, cParts P d ps with
    | some (o, s), some a, some as => some ((o, s, a) :: as)
    | _, _, _ => none
def cPartsS : List (Nat × Operand) → Option (List (Nat × Arg))
  | [] => some []
  | (i, x) :: ps => match cOpd x, cPartsS ps with
    | some a, some as => some ((i, a) :: as)
    | _, _ => none
/-- The cells of a type, true for a truth, false for a number, if values of it are equal just if these are. -/
def flatFs (P : Program) (rec : TypeId → Option (List Bool)) : List Field → List Bool → Option (List Bool)
  | [], acc => some acc
  | f :: fs, acc =>
    if f.name ≠ "_" ∧ f.offset = acc.length then
      match rec f.type with
      | some ks => if sizeK P f.type = some ks.length then flatFs P rec fs (acc ++ ks) else none
      | none => none
    else none
def flatK (P : Program) : Nat → TypeId → Option (List Bool)
  | 0, _ => none
  | d + 1, t =>
    match P.underlying t with
    | some .bool => some [true]
    | some (.int _) => some [false]
    | some (.struct fs) => if P.stoodInHeld t then none else flatFs P (flatK P d) fs.toList []
    | some (.array n e) => match flatK P d e with
      | some ks => if sizeK P e = some ks.length then some (List.replicate n ks).flatten else none
      | none => none
    | _ => none
def aggK (P : Program) (t : TypeId) : Bool :=
  match P.underlying t with
  | some d => isAggD d
  | none => false
def isNilC : Operand → Bool
  | .const (.slice none 0 0) => true
  | _ => false
def nilT (P : Program) (t : TypeId) : Bool :=
  match P.underlying t with
  | some (.slice _) => true
  | _ => false
def cNil (P : Program) (neg : Bool) (t : TypeId) (x y : Operand) (ax : Arg) (r : Option PO) : Option PO :=
  if nilT P t && isNilC y then some (.isNil neg ax) else r
def cEqv (P : Program) (neg : Bool) (t : TypeId) (x y : Arg) : Option PO :=
  match flatK P 20 t with
  | some ks => if P.eqGuardType P.depth t then none else some (.eqv neg (aggK P t) ks x y)
  | none => none
def isIntT (P : Program) (t : TypeId) : Bool :=
  match P.underlying t with
  | some (.int _) => true
  | _ => false
def isByteT (P : Program) (t : TypeId) : Bool :=
  match P.underlying t with
  | some (.int .u8) => true
  | _ => false
def isStrT (P : Program) (t : TypeId) : Bool :=
  match P.underlying t with
  | some .string => true
  | _ => false
def isSliceT (P : Program) (t : TypeId) : Bool :=
  match P.underlying t with
  | some (.slice _) => true
  | _ => false
def keyK (P : Program) (t : TypeId) : Option KK :=
  match P.underlying t with
  | some (.int k) => some (.int k)
  | some .bool => some .bool
  | some .string => some .str
  | _ => none
def mapK (P : Program) (t : TypeId) : Option (KK × TypeId) :=
  match P.underlying t with
  | some (.map k e) => (keyK P k).map fun kk => (kk, e)
  | _ => none
def zeroV (P : Program) (t : TypeId) : Option AV := ((P.info? t).bind (·.zero)).bind ofValue
def isIfaceT (P : Program) (t : TypeId) : Bool :=
  match P.underlying t with
  | some (.interface _) => true
  | _ => false
def knownT (P : Program) (t : TypeId) : Bool := (P.underlying t).isSome
def isPtrD : TypeDesc → Bool
  | .pointer _ => true
  | _ => false
/-- The methods of a name that are plain: of the type itself, by value or of a pointer. -/
def methT (P : Program) (name : String) (t : TypeId) : Option FuncId :=
  match P.info? t, P.underlying t with
  | some i, some d => match i.methods.find? (·.name == name) with
    | some m => match m.func with
      | some (f, ptr) => if m.path.isEmpty && !ptr && !isPtrD d then some f else none
      | none => none
    | none => none
  | _, _ => none
def methTbl (P : Program) (name : String) : List (TypeId × FuncId) := (List.range P.types.size).filterMap fun t => (methT P name t).map fun f => (t, f)
def cBuiltin (P : Program) (b : Builtin) (argTypes : Array TypeId) (args : List Arg) : Option PO :=
  match b, args with
  | .len, [x] =>
    match (argTypes[0]?).bind P.underlying with
    | some (.slice _) => some (.lenS x)
    | some (.array n _) => some (.lenC n)
    | some (.map _ _) => some (.lenM x)
    | _ => none
  | .delete, [m, k] => ((argTypes[0]?).bind (mapK P)).map fun p => .mdel p.1 m k
  | .recover, [] => some .rcv
  | .copy, [x, y] => match (argTypes[0]?).bind P.underlying, (argTypes[1]?).bind P.underlying with
    | some (.slice e), some (.slice _) => (sizeK P e).map fun s => .cpy s x y
    | _, _ => none
  | .append, [x, y] =>
    match (argTypes[0]?).bind P.underlying, argTypes[1]? with
    | some (.slice e), some u =>
      match P.info? e, zeroK P e with
      | some i, some z => if z.length == i.size then (if isSliceT P u then some (.app i.size i.bytes x y) else if isIntT P u then some (.appZ i.size i.bytes z x y) else none) else none
      | _, _ => none
    | _, _ => none
  | .cap, [x] => match (argTypes[0]?).bind P.underlying with
    | some (.slice _) => some (.capS x)
    | _ => none
  | .clear, [x] => match (argTypes[0]?).bind P.underlying with
    | some (.slice e) => match sizeK P e, zeroK P e with
      | some s, some z => if z.length == s then some (.clr s z x) else none
      | _, _ => none
    | _ => none
  | .min, xs => some (.mx false xs)
  | .max, xs => some (.mx true xs)
  | _, _ => none
def isNilIC : Operand → Bool
  | .const .nilIface => true
  | _ => false
def cOp (P : Program) : Op → Option PO
  | .makeMap t none => (mapK P t).map fun _ => .mkM
  | .lookup t x i ok => match mapK P t, cOpd x, cOpd i with
    | some (kk, e), some x, some i => (zeroV P e).map fun z => .look kk z ok x i
    | _, _, _ => none
  | .mapUpdate t m k x | .insert t m k x => match mapK P t, cOpd m, cOpd k, cOpd x with
    | some (kk, _), some m, some k, some x => some (.mset kk m k x)
    | _, _, _, _ => none
  | .mapEntry t m k => match mapK P t, cOpd m, cOpd k with
    | some (kk, e), some m, some k => (zeroV P e).map fun z => .ment kk z m k
    | _, _, _ => none
  | .entryStore t m s x => match cOpd m, cOpd s, cOpd x with
    | some m, some s, some x => some (.mest m s x)
    | _, _, _ => none
  | .makeInterface t x => if knownT P t && !isIfaceT P t then (cOpd x).map (.mkI t) else none
  | .typeAssert x _ t ok => if knownT P t && !isIfaceT P t then match cOpd x with
      | some x => if ok then (zeroV P t).map fun z => .tas t (some z) x else some (.tas t none x)
      | none => none
    else none
  | .defer c => match c.callee, cOpds c.args.toList with
    | .value g, some args => (cOpd g).map fun g => .dfr g args
    | _, _ => none
  | .panic x => (cOpd x).map .pnc
  | .move x | .assign x => (cOpd x).map .mv
  | .pick c a b => match cOpd c, cOpd a, cOpd b with
    | some c, some a, some b => some (.pick c a b)
    | _, _, _ => none
  | .alloc e => (zeroK P e).map .new
  | .box _ x => (cOpd x).map .box
  | .build t ps => match P.underlying t, zeroK P t with
    | some d, some z => if partsOK P d then (cParts P d ps.toList).map (.build z) else none
    | _, _ => none
  | .buildSlice t n ps => match P.underlying t with
    | some (.slice e) => match sizeK P e, zeroK P e, cPartsS ps.toList with
      | some s, some z, some ps => if s == 0 then none else some (.buildS s n z ps)
      | _, _, _ => none
    | _ => none
  | .load t x => match partK P t, cOpd x with
    | some k, some x => some (.load k x)
    | _, _ => none
  | .store t x y => match sizeK P t, cOpd x, cOpd y with
    | some n, some x, some y => some (.store n x y)
    | _, _, _ => none
  | .fieldAddr s x i => match P.underlying s, cOpd x with
    | some (.struct fs), some x => (fs[i]?).bind fun f => match sizeK P f.type with
      | some 0 => none
      | some _ => some (.fieldA f.offset x)
      | none => none
    | _, _ => none
  | .indexAddr t x i => match P.underlying t, cOpd x, cOpd i with
    | some (.slice e), some x, some i => (sizeK P e).map fun s => .indexS s x i
    | some (.array n e), some x, some i => (sizeK P e).map fun s => .indexA n s x i
    | _, _, _ => none
  | .field t x i => match P.underlying t, cOpd x with
    | some (.struct fs), some x => (fs[i]?).bind fun f => (partK P f.type).map fun k => .field k f.offset x
    | _, _ => none
  | .nilCheck x => (cOpd x).map .nck
  | .index t x i => match P.underlying t, cOpd x, cOpd i with
    | some .string, some x, some i => some (.strX x i)
    | some (.array n e), some x, some i => match partK P e, sizeK P e with
      | some k, some s => some (.indexV n k s x i)
      | _, _ => none
    | _, _, _ => none
  | .binOp op t xo yo _ => match cOpd xo, cOpd yo with
    | some x, some y =>
      if isIntT P t then some (.bin op x y)
      else if isIfaceT P t then (if isNilIC yo then match op with
        | .eql => some (.isNilI false x)
        | .neq => some (.isNilI true x)
        | _ => none else none)
      else if isStrT P t then (match op with
        | .eql => some (.eqS false x y)
        | .neq => some (.eqS true x y)
        | _ => none)
      else match op with
        | .eql => cNil P false t xo yo x (cEqv P false t x y)
        | .neq => cNil P true t xo yo x (cEqv P true t x y)
        | _ => none
    | _, _ => none
  | .unOp op _ x => (cOpd x).map (.un op)
  | .convert s d x => match P.underlying s, P.underlying d, cOpd x with
    | some (.int _), some (.int k), some x => some (.conv k x)
    | some (.slice e), some .string, some x => if isByteT P e && sizeK P e == some 1 then some (.bstr x) else none
    | _, _, _ => none
  | .makeSlice t l c => match P.underlying t, cOpd l, cOpd c with
    | some (.slice e), some l, some c => match P.info? e, zeroK P e with
      | some i, some z => if i.size == 0 then none else some (.mkS i.size i.bytes z l c)
      | _, _ => none
    | _, _, _ => none
  | .slice t x lo hi none => match P.underlying t, cOpd x, cOpt lo, cOpt hi with
    | some (.slice e), some x, some lo, some hi => (sizeK P e).map fun s => .sl s x lo hi
    | some (.array n e), some x, some none, some hi => (sizeK P e).map fun s => .slA s n x hi
    | _, _, _, _ => none
  | .slice t x lo (some hi) (some mx) => match P.underlying t, cOpd x, cOpt lo, cOpd hi, cOpd mx with
    | some (.slice e), some x, some lo, some hi, some mx => (sizeK P e).map fun s => .sl3 s x lo hi mx
    | _, _, _, _, _ => none
  | .extract x i => (cOpd x).map fun x => .ext x i
  | .makeFunc (.func f) first caps => match cOpds first.toList, cOpds caps.toList with
    | some a, some b => some (.mkF f a b)
    | _, _ => none
  | .call c => match c.callee, cOpds c.args.toList with
    | .builtin b, some args => cBuiltin P b c.argTypes args
    | .value (.func f), some args => some (.call f args)
    | .value g, some args => (cOpd g).map fun g => .callv g args
    | .invoke x name, some args => (cOpd x).map fun x => .inv (methTbl P name) x args
    | _, _ => none
  | _ => none
/-- The slots that an operation looks at. -/
def usesO (ops : Array Oper) (o : Oper) : List Tmp := o.looksAt ops
/-- In a region that draws its order: whoever writes a slot, and whoever looks at it or writes it too, stand in one order; edges lead back. -/
def slotsOK (ops : Array Oper) : Bool :=
  let b := Region.before ops
  (ops.toList.zipIdx.all fun p => ops.toList.zipIdx.all fun q => !(decide (q.2 < p.2)) || (b.getD p.2 0).testBit q.2 || q.1.apart ops p.1) &&
  (ops.toList.zipIdx.all fun p => p.1.after.toList.all fun e => !Region.binds .any e || decide (e.on < p.2))
/-- What is looked at is looked at in the model. -/
def usesOK (ops : Array Oper) : List Oper → List IOp → Bool
  | o :: os, io :: ios => (io.op.args.all fun x => match x with
    | .t n => (o.looksAt ops).contains n
    | .c _ => true) && usesOK ops os ios
  | _, _ => true
def cOper (P : Program) (ops : Array Oper) (bef : Nat) (o : Oper) : Option IOp :=
  match o.guard with
  | none => some ⟨o.dst, (cOp P o.op).getD .bad, none, bef⟩
  | some (j, want) => match (ops[j]?).bind (·.dst) with
    | some t => some ⟨o.dst, (cOp P o.op).getD .bad, some (t, want), bef⟩
    | none => none
def cOpers (P : Program) (ops : Array Oper) : List Oper → Nat → Option (List IOp)
  | [], _ => some []
  | o :: os, i => match cOper P ops ((Region.before ops).getD i 0) o, cOpers P ops os (i + 1) with
    | some a, some as => some (a :: as)
    | _, _ => none
def cCode (P : Program) : Code → Option IC
  | .skip => some .skip
  | .region _ ops draw => match cOpers P ops ops.toList 0 with
    | some os => if draw then (if slotsOK ops && usesOK ops ops.toList os then some (.region os true) else none) else some (.region os false)
    | none => none
  | .seq a b => match cCode P a, cCode P b with
    | some a, some b => some (.seq a b)
    | _, _ => none
  | .cond c a b => match cOpd c, cCode P a, cCode P b with
    | some c, some a, some b => some (.cond c a b)
    | _, _, _ => none
  | .block id c => (cCode P c).map (.block id)
  | .loop c => (cCode P c).map .loop
  | .exit id => some (.exit id)
  | .ret => some .ret
  | .scope c => (cCode P c).map .scope
  | .label _ => some .skip
  | .rangeFunc g ps a b => match cOpd g, cCode P a, cCode P b with
    | some g, some a, some b => some (.rangeF g ps.toList a b)
    | _, _, _ => none
  | _ => none
def cRes (P : Program) : ResultVar → Option IRes
  | .tmp t => some (.t t)
  | .cell a t => (partK P t).map (.cell a)
def cRess (P : Program) : List ResultVar → Option (List IRes)
  | [] => some []
  | r :: rs => match cRes P r, cRess P rs with
    | some a, some as => some (a :: as)
    | _, _ => none
def cFnD (P : Program) (byref : Bool) (dm : Nat) (f : FuncId) : Option IFn :=
  match P.funcs[f]? with
  | none => none
  | some fn =>
    if fn.name == "runtime.NumGoroutine" then none else
    match fn.body with
    | none => none
    | some c => match cCode P c, cRess P fn.results.toList with
      | some c, some rs => some ⟨fn.ntmps, rs, c, byref, dm⟩
      | _, _ => none
abbrev cFn (P : Program) (byref : Bool) (f : FuncId) : Option IFn := cFnD P byref 0 f
end Go.V
/- The evaluator's memory, and how its values and memory stand to the model's world. -/
set_option linter.unusedVariables false
set_option linter.unusedSimpArgs false
namespace Go.V
open Go.RowKit

structure Loc where
  blk : Nat
  base : Nat
  sz : Nat
abbrev Phi := Nat → Option Loc

/-- When a map's entries were made: before now, no two at once. -/
def BornOK (bs : List Nat) (cl : Nat) : Prop := (∀ b ∈ bs, b < cl) ∧ bs.Nodup
inductive Rep (w : World) (S : Nat → Prop) : Phi → AV → Value → Prop
  | int {φ k n} : Rep w S φ (.int k n) (.int k n)
  | bool {φ b} : Rep w S φ (.bool b) (.bool b)
  | str {φ s} : Rep w S φ (.str s) (.string s)
  | agg {φ cs vs} (hl : vs.size = cs.length) (h : ∀ (i : Nat) c v, cs[i]? = some c → vs[i]? = some v → Rep w S φ c v) : Rep w S φ (.agg cs) (.agg vs)
  | tup {φ cs vs} (hl : vs.size = cs.length) (h : ∀ (i : Nat) c v, cs[i]? = some c → vs[i]? = some v → Rep w S φ c v) : Rep w S φ (.tup cs) (.tuple vs)
  | lst {φ sz xs b base cap} (vals : Nat → Nat → Value) (hs : ∀ x ∈ xs, x.length = sz ∧ x.all AV.one = true) (hS : S b) (hl : xs.length ≤ cap)
      (hc : ∀ (i j : Nat) x c, xs[i]? = some x → x[j]? = some c → w.cell? ⟨b, base + i * sz + j, none⟩ = some (vals i j))
      (hr : ∀ (i j : Nat) x c, xs[i]? = some x → x[j]? = some c → Rep w S (fun _ => none) c (vals i j)) : Rep w S φ (.lst sz xs) (.slice (some ⟨b, base, none⟩) xs.length cap)
  | lstNil {φ sz a cap} : Rep w S φ (.lst sz []) (.slice a 0 cap)
  | ptrL {φ sz xs b base i j} (vals : Nat → Nat → Value) (hs : ∀ x ∈ xs, x.length = sz ∧ x.all AV.one = true) (hS : S b)
      (hc : ∀ (i j : Nat) x c, xs[i]? = some x → x[j]? = some c → w.cell? ⟨b, base + i * sz + j, none⟩ = some (vals i j))
      (hr : ∀ (i j : Nat) x c, xs[i]? = some x → x[j]? = some c → Rep w S (fun _ => none) c (vals i j)) : Rep w S φ (.ptrL sz xs i j) (.pointer (some ⟨b, base + i * sz + j, none⟩))
  | own {φ id off len loc cap e n} (hφ : φ id = some loc) (hsh : w.shape? loc.blk = some (e, n)) (hn : loc.base + (off + cap) * loc.sz ≤ n) (hl : len ≤ cap) :
      Rep w S φ (.own id off len) (.slice (some ⟨loc.blk, loc.base + off * loc.sz, none⟩) len cap)
  | ptr {φ id i j loc} (hφ : φ id = some loc) : Rep w S φ (.ptr id i j) (.pointer (some ⟨loc.blk, loc.base + i * loc.sz + j, none⟩))
  | emp {φ z a cap} (h : z = true → cap = 0) : Rep w S φ (.emp z) (.slice (some a) 0 cap)
  | nilS {φ} : Rep w S φ .nilS (.slice none 0 0)
  | nilP {φ} : Rep w S φ .nilP (.pointer none)
  | nilF {φ} : Rep w S φ .nilF .nilFunc
  | fn {φ f first caps vf vc} (hl : vf.size = first.length) (h : ∀ (i : Nat) c v, first[i]? = some c → vf[i]? = some v → Rep w S φ c v)
      (hl' : vc.size = caps.length) (h' : ∀ (i : Nat) c v, caps[i]? = some c → vc[i]? = some v → Rep w S φ c v) : Rep w S φ (.fn f first caps) (.func (.func f) vf vc)
  | yld {φ id loc} (hφ : φ id = some loc) : Rep w S φ (.yld id) (.func (.yield loc.blk) #[] #[])
  | map {φ id loc} (hφ : φ id = some loc) : Rep w S φ (.map id) (.map (some loc.blk))
  | mapN {φ} : Rep w S φ .mapN (.map none)
  | mapL {φ ks vs b es clock} (hS : S b) (hb : w.heap[b]? = some (.map es clock)) (hk : es.size = ks.length) (hv : es.size = vs.length)
      (hkr : ∀ (i : Nat) k e, ks[i]? = some k → es[i]? = some e → Rep w S (fun _ => none) k e.key)
      (hvr : ∀ (i : Nat) v e, vs[i]? = some v → es[i]? = some e → Rep w S (fun _ => none) v e.val) (hbo : BornOK (es.toList.map (·.born)) clock) : Rep w S φ (.mapL ks vs) (.map (some b))
  | ifc {φ t a v} (h : Rep w S φ a v) : Rep w S φ (.ifc t a) (.iface t v)
  | ifcN {φ} : Rep w S φ .ifcN .nilIface
  | clp {φ id off len loc e n} (hφ : φ id = some loc) (hsh : w.shape? loc.blk = some (e, n)) (hn : loc.base + (off + len) * loc.sz ≤ n) : Rep w S φ (.clp id off len) (.slice (some ⟨loc.blk, loc.base + off * loc.sz, none⟩) len len)
  | sub {φ id i j sz len cap loc e n} (hφ : φ id = some loc) (hsh : w.shape? loc.blk = some (e, n)) (hn : loc.base + i * loc.sz + j + cap * sz ≤ n) (hl : len ≤ cap) :
      Rep w S φ (.sub id i j sz len) (.slice (some ⟨loc.blk, loc.base + i * loc.sz + j, none⟩) len cap)

/-- Lists of values. -/
def Reps (w : World) (S : Nat → Prop) (φ : Phi) (cs : List AV) (vs : Array Value) : Prop := vs.size = cs.length ∧ ∀ (i : Nat) c v, cs[i]? = some c → vs[i]? = some v → Rep w S φ c v

theorem Rep.mono {w w' : World} {S S' : Nat → Prop} (hS : ∀ b, S b → S' b) (hk : ∀ b, S b → w'.heap[b]? = w.heap[b]?) (hsh : ∀ b e n, w.shape? b = some (e, n) → w'.shape? b = some (e, n)) {φ φ' : Phi} {a : AV} {v : Value} (h : Rep w S φ a v) :
    (∀ id loc, φ id = some loc → φ' id = some loc) → Rep w' S' φ' a v := by
  induction h generalizing φ' with
  | int => intro _; exact .int
  | bool => intro _; exact .bool
  | str => intro _; exact .str
  | agg hl _ ih => intro hφ; exact .agg hl fun i c v h1 h2 => ih i c v h1 h2 hφ
  | tup hl _ ih => intro hφ; exact .tup hl fun i c v h1 h2 => ih i c v h1 h2 hφ
  | lst vals hs h1 hl hc hr ih =>
    intro _
    exact .lst vals hs (hS _ h1) hl (fun i j x c e1 e2 => by rw [← hc i j x c e1 e2]; exact World.cell?_of_block (hk _ h1)) (fun i j x c e1 e2 => ih i j x c e1 e2 (fun id loc e => by cases e))
  | lstNil => intro _; exact .lstNil
  | ptrL vals hs h1 hc hr ih =>
    intro _
    exact .ptrL vals hs (hS _ h1) (fun i j x c e1 e2 => by rw [← hc i j x c e1 e2]; exact World.cell?_of_block (hk _ h1)) (fun i j x c e1 e2 => ih i j x c e1 e2 (fun id loc e => by cases e))
  | own h1 h2 h3 h4 => intro hφ; exact .own (hφ _ _ h1) (hsh _ _ _ h2) h3 h4
  | ptr h1 => intro hφ; exact .ptr (hφ _ _ h1)
  | emp h => intro _; exact .emp h
  | nilS => intro _; exact .nilS
  | nilP => intro _; exact .nilP
  | nilF => intro _; exact .nilF
  | fn hl _ hl' _ ih ih' => intro hφ; exact .fn hl (fun i c v h1 h2 => ih i c v h1 h2 hφ) hl' (fun i c v h1 h2 => ih' i c v h1 h2 hφ)
  | yld h1 => intro hφ; exact .yld (hφ _ _ h1)
  | map h1 => intro hφ; exact .map (hφ _ _ h1)
  | mapN => intro _; exact .mapN
  | mapL h1 h2 h3 h4 _ _ h7 ih ih' =>
    intro _
    exact .mapL (hS _ h1) ((hk _ h1).trans h2) h3 h4 (fun i k e e1 e2 => ih i k e e1 e2 (fun id loc e => by cases e)) (fun i v e e1 e2 => ih' i v e e1 e2 (fun id loc e => by cases e)) h7
  | ifc _ ih => intro hφ; exact .ifc (ih hφ)
  | ifcN => intro _; exact .ifcN
  | clp h1 h2 h3 => intro hφ; exact .clp (hφ _ _ h1) (hsh _ _ _ h2) h3
  | sub h1 h2 h3 h4 => intro hφ; exact .sub (hφ _ _ h1) (hsh _ _ _ h2) h3 h4

/-- Blocks of the evaluator's memory: rows; the record of a loop over a function; where the deferred calls of its rounds would lie. -/
inductive Blk where
  | row (sz : Nat) (xs : List (List AV))
  | loop (env : List AV) (ps : List Nat) (a b : IC) (st : LoopState) (pend : Ex) (d : Nat)
  | mark
  | map (ms : List (AV × AV × Nat)) (clock : Nat)
  deriving Inhabited
abbrev Mem := Nat → Option Blk
def Ex.code : Ex → Option Code
  | .normal => none
  | .exit id => some (.exit id)
  | .ret => some .ret
  | .pan _ => none

def SimBlk (P : Program) (w : World) (S : Nat → Prop) (φ : Phi) (loc : Loc) : Blk → Prop
  | .row sz xs => loc.sz = sz ∧ (∀ x ∈ xs, x.length = sz) ∧ ∃ c e, w.heap[loc.blk]? = some (.cells c e (0, 0)) ∧ loc.base + xs.length * sz ≤ c.size ∧
      ∀ (i j : Nat) x a, xs[i]? = some x → x[j]? = some a → a.one = true ∧ ∃ v, c[loc.base + i * sz + j]? = some v ∧ Rep w S φ a v
  | .loop env ps a b st pend d => ∃ r : Loop, w.heap[loc.blk]? = some (.loop r) ∧ Reps w S φ env r.tmps ∧ r.params.toList = ps ∧ cCode P r.assign = some a ∧ cCode P r.body = some b ∧ r.state = st ∧ r.pending = pend.code ∧ ∃ ld, φ d = some ld ∧ r.defers = ld.blk
  | .mark => w.heap[loc.blk]? = some (.deferred (some []))
  | .map ms clock => ∃ es : Array MapEntry, w.heap[loc.blk]? = some (.map es clock) ∧ es.size = ms.length ∧ ∀ (i : Nat) m e, ms[i]? = some m → es[i]? = some e → Rep w S φ m.1 e.key ∧ Rep w S φ m.2.1 e.val ∧ e.born = m.2.2
theorem SimBlk.lt {P : Program} {w : World} {S : Nat → Prop} {φ : Phi} {loc : Loc} {b : Blk} (h : SimBlk P w S φ loc b) : loc.blk < w.heap.size := by
  cases b with
  | row s ys => exact (Array.getElem?_eq_some_iff.1 h.2.2.choose_spec.choose_spec.1).1
  | loop => obtain ⟨r, h, -⟩ := h; exact (Array.getElem?_eq_some_iff.1 h).1
  | mark => exact (Array.getElem?_eq_some_iff.1 h).1
  | map => obtain ⟨es, h, -⟩ := h; exact (Array.getElem?_eq_some_iff.1 h).1

structure Sim (P : Program) (S : Nat → Prop) (φ : Phi) (h : Mem) (w : World) : Prop where
  blk : ∀ id b, h id = some b → ∃ loc, φ id = some loc ∧ SimBlk P w S φ loc b ∧ ¬ S loc.blk
  inj : ∀ id id' b b' loc loc', h id = some b → h id' = some b' → φ id = some loc → φ id' = some loc' → loc.blk = loc'.blk → id = id'
  bd : ∀ b, S b → b < w.heap.size
variable {P : Program}

def Own (φ : Phi) (h : Mem) (b : Nat) : Prop := ∃ id x loc, h id = some x ∧ φ id = some loc ∧ loc.blk = b

/-- What a step leaves as it was. -/
structure Adv (S : Nat → Prop) (φ : Phi) (h : Mem) (w : World) (S' : Nat → Prop) (φ' : Phi) (h' : Mem) (w' : World) : Prop where
  phi : ∀ id loc, φ id = some loc → φ' id = some loc
  up : ∀ b, S b → S' b
  new : ∀ b, S' b → S b ∨ w.heap.size ≤ b
  os : w'.os = w.os
  tape : w'.tape = w.tape
  output : w'.output = w.output
  size : w.heap.size ≤ w'.heap.size
  keep : ∀ b, b < w.heap.size → ¬ Own φ h b → w'.heap[b]? = w.heap[b]?
  own : ∀ b, Own φ' h' b → Own φ h b ∨ w.heap.size ≤ b
  shape : ∀ b e n, w.shape? b = some (e, n) → w'.shape? b = some (e, n)

theorem Adv.refl (S : Nat → Prop) (φ : Phi) (h : Mem) (w : World) : Adv S φ h w S φ h w :=
  ⟨fun _ _ e => e, fun _ e => e, fun _ e => .inl e, rfl, rfl, rfl, Nat.le_refl _, fun _ _ _ => rfl, fun _ e => .inl e, fun _ _ _ e => e⟩
theorem Adv.trans {S S' S'' : Nat → Prop} {φ φ' φ'' : Phi} {h h' h'' : Mem} {w w' w'' : World} (p : Adv S φ h w S' φ' h' w') (q : Adv S' φ' h' w' S'' φ'' h'' w'') : Adv S φ h w S'' φ'' h'' w'' where
  phi id loc e := q.phi _ _ (p.phi _ _ e)
  up b e := q.up _ (p.up _ e)
  new b e := by
    rcases q.new b e with h1 | h1
    · exact p.new b h1
    · exact .inr (Nat.le_trans p.size h1)
  os := q.os.trans p.os
  tape := q.tape.trans p.tape
  output := q.output.trans p.output
  size := Nat.le_trans p.size q.size
  keep b hb hn := by
    rw [q.keep b (Nat.lt_of_lt_of_le hb p.size) (fun ho => by
      rcases p.own b ho with h1 | h1
      · exact hn h1
      · omega), p.keep b hb hn]
  own b ho := by
    rcases q.own b ho with h1 | h1
    · exact p.own b h1
    · exact .inr (Nat.le_trans p.size h1)
  shape b e n hs := q.shape _ _ _ (p.shape _ _ _ hs)
theorem Sim.notOwn {S : Nat → Prop} {φ : Phi} {h : Mem} {w : World} (hs : Sim P S φ h w) {b : Nat} (hb : S b) : ¬ Own φ h b := by
  rintro ⟨id, x, loc, h1, h2, h3⟩
  obtain ⟨loc', e, -, hn⟩ := hs.blk id x h1
  rw [h2] at e; cases e
  exact hn (h3 ▸ hb)
theorem Adv.rep {S S' : Nat → Prop} {φ φ' : Phi} {h h' : Mem} {w w' : World} (p : Adv S φ h w S' φ' h' w') (hs : Sim P S φ h w) {a : AV} {v : Value} (hr : Rep w S φ a v) : Rep w' S' φ' a v :=
  hr.mono p.up (fun b hb => p.keep b (hs.bd b hb) (hs.notOwn hb)) p.shape p.phi
theorem Adv.reps {S S' : Nat → Prop} {φ φ' : Phi} {h h' : Mem} {w w' : World} (p : Adv S φ h w S' φ' h' w') (hs : Sim P S φ h w) {cs : List AV} {vs : Array Value} (hr : Reps w S φ cs vs) : Reps w' S' φ' cs vs :=
  ⟨hr.1, fun i c v h1 h2 => p.rep hs (hr.2 i c v h1 h2)⟩
theorem SimBlk.adv {S S' : Nat → Prop} {φ φ' : Phi} {h h' : Mem} {w w' : World} (p : Adv S φ h w S' φ' h' w') (hs : Sim P S φ h w) {loc : Loc} {b : Blk} (hb : SimBlk P w S φ loc b) (hk : w'.heap[loc.blk]? = w.heap[loc.blk]?) : SimBlk P w' S' φ' loc b := by
  cases b with
  | row s ys =>
    obtain ⟨f1, f2, c, e, f3, f4, f5⟩ := hb
    exact ⟨f1, f2, c, e, hk.trans f3, f4, fun i j x a g1 g2 => by obtain ⟨o1, v, r1, r2⟩ := f5 i j x a g1 g2; exact ⟨o1, v, r1, p.rep hs r2⟩⟩
  | loop env ps a b st pend d =>
    obtain ⟨r, f1, f2, f3, f4, f5, f6, f7, ld, f8, f9⟩ := hb
    exact ⟨r, hk.trans f1, p.reps hs f2, f3, f4, f5, f6, f7, ld, p.phi _ _ f8, f9⟩
  | mark => exact hk.trans hb
  | map ms clock =>
    obtain ⟨es, f1, f2, f3⟩ := hb
    exact ⟨es, hk.trans f1, f2, fun i m e g1 g2 => by obtain ⟨r1, r2, r3⟩ := f3 i m e g1 g2; exact ⟨p.rep hs r1, p.rep hs r2, r3⟩⟩
theorem Sim.lt {S : Nat → Prop} {φ : Phi} {h : Mem} {w : World} (hs : Sim P S φ h w) {id : Nat} {b : Blk} {loc : Loc} (h1 : h id = some b) (h2 : φ id = some loc) : loc.blk < w.heap.size := by
  obtain ⟨l', q1, q2, -⟩ := hs.blk id b h1
  rw [h2] at q1; cases q1
  exact q2.lt
/-- For whoever owned nothing: all that was stays. -/
theorem Adv.below {S S' : Nat → Prop} {φ φ' : Phi} {h h' : Mem} {w w' : World} (p : Adv S φ h w S' φ' h' w') (hn : ∀ b, ¬ Own φ h b) : Below w.heap.size w w' :=
  ⟨p.os, p.tape, p.output, p.size, fun b hb => p.keep b hb (hn b)⟩
end Go.V
/- The evaluator: how it runs. -/
set_option linter.unusedVariables false
set_option linter.unusedSimpArgs false
namespace Go.V
open Go.RowKit

/-! Memory -/
structure Heap where
  l : List (Option Blk)
  nx : Nat
  deriving Inhabited
def noH : Heap := ⟨[], 0⟩
def hget (H : Heap) (id : Nat) : Option Blk :=
  match H.l[id]? with
  | some (some b) => some b
  | _ => none
def hsetL : List (Option Blk) → Nat → Option Blk → List (Option Blk)
  | [], 0, b => [b]
  | [], n + 1, b => none :: hsetL [] n b
  | _ :: H, 0, b => b :: H
  | x :: H, n + 1, b => x :: hsetL H n b
abbrev Wr := List (Nat × Option Blk)
def wrL (l : List (Option Blk)) (wr : Wr) : List (Option Blk) := wr.foldl (fun l p => hsetL l p.1 p.2) l
def wrH (H : Heap) (wr : Wr) (nx : Nat) : Heap := ⟨wrL H.l wr, max H.nx nx⟩

def undefA : AV := .tup []
def arg (env : List AV) : Arg → AV
  | .t n => nthK undefA env n
  | .c v => v
theorem arg_t (env : List AV) (n : Nat) : arg env (.t n) = env.getD n undefA := nthK_eq undefA env n
def AV.cells : AV → List AV
  | .agg cs => cs
  | v => [v]
/-- So many cells of an element, from a place on: an aggregate, or the one cell. -/
def part (n : Option Nat) (x : List AV) (j : Nat) : Option AV :=
  match n with
  | none => x[j]?
  | some n => if j + n ≤ x.length then some (.agg ((x.drop j).take n)) else none
def put (x : List AV) (j : Nat) (cs : List AV) : Option (List AV) := if j + cs.length ≤ x.length then some (x.take j ++ cs ++ x.drop (j + cs.length)) else none
def fillA (env : List AV) : List (Nat × Nat × Arg) → List AV → Option (List AV)
  | [], cs => some cs
  | (off, size, x) :: ps, cs => if (arg env x).cells.length = size ∧ (arg env x).cells.all AV.one = true then (put cs off (arg env x).cells).bind (fillA env ps) else none
def fillS (env : List AV) (sz : Nat) : List (Nat × Arg) → List (List AV) → Option (List (List AV))
  | [], xs => some xs
  | (i, x) :: ps, xs => if (arg env x).cells.length = sz ∧ (arg env x).cells.all AV.one = true ∧ i < xs.length then fillS env sz ps (xs.set i (arg env x).cells) else none
/-- What a slice holds. -/
def elems (H : Heap) (sz : Nat) : AV → Option (List (List AV) × List Nat)
  | .nilS => some ([], [])
  | .emp _ => some ([], [])
  | .lst s xs => if s = sz then some (xs, []) else none
  | .own _ _ 0 => some ([], [])
  | .own id off len =>
    match hget H id with
    | some (.row s xs) => if s = sz ∧ off + len ≤ xs.length then some ((xs.drop off).take len, [id]) else none
    | _ => none
  | _ => none
/-- Bytes. -/
def bytesA : List (List AV) → Option (List UInt8)
  | [] => some []
  | [.int .u8 n] :: ys => (bytesA ys).map fun bs => UInt8.ofNat n.toNat :: bs
  | _ => none
/-- Equal: of a truth, or of a number. -/
def eqA (k : Bool) : AV → AV → Option Bool
  | .int i a, .int i' b => if k = false ∧ i = i' then some (a == b) else none
  | .bool a, .bool b => if k = true then some (a == b) else none
  | _, _ => none
def eqL : List Bool → List AV → List AV → Option Bool
  | [], [], [] => some true
  | k :: ks, a :: as, b :: bs => match eqA k a b with
    | some true => eqL ks as bs
    | some false => some false
    | none => none
  | _, _, _ => none
def bitI (f : {n : Nat} → BitVec n → BitVec n → BitVec n) (k : IntKind) (a b : Int) : Int := k.wrap ((f (BitVec.ofInt k.bits a) (BitVec.ofInt k.bits b)).toNat : Int)
def binA (op : BinOp) : AV → AV → Option AV
  | .int k a, .int k' b =>
    match op with
    | .shl => if 0 ≤ b then some (.int k (k.wrap (a * 2 ^ min b.toNat k.bits))) else none
    | .shr => if 0 ≤ b then some (.int k (a.fdiv (2 ^ min b.toNat k.bits))) else none
    | _ => if k = k' then
        match op with
        | .add => some (.int k (k.wrap (a + b)))
        | .sub => some (.int k (k.wrap (a - b)))
        | .mul => some (.int k (k.wrap (a * b)))
        | .quo => if b = 0 then none else some (.int k (k.wrap (a.tdiv b)))
        | .rem => if b = 0 then none else some (.int k (a.tmod b))
        | .eql => some (.bool (a == b))
        | .neq => some (.bool (a != b))
        | .lss => some (.bool (decide (a < b)))
        | .leq => some (.bool (decide (a ≤ b)))
        | .gtr => some (.bool (decide (a > b)))
        | .geq => some (.bool (decide (a ≥ b)))
        | .and => some (.int k (bitI (· &&& ·) k a b))
        | .or => some (.int k (bitI (· ||| ·) k a b))
        | .xor => some (.int k (bitI (· ^^^ ·) k a b))
        | .andNot => some (.int k (bitI (fun x y => x &&& ~~~y) k a b))
        | _ => none
      else none
  | _, _ => none
def unA (op : UnOp) : AV → Option AV
  | .bool b => match op with
    | .not => some (.bool !b)
    | _ => none
  | .int k n => match op with
    | .neg => some (.int k (k.wrap (0 - n)))
    | _ => none
  | _ => none
def idx : AV → Nat → Option Nat
  | .int _ i, n => if 0 ≤ i ∧ i < n then some i.toNat else none
  | _, _ => none
/-- A bound of a slice. -/
def bnd (env : List AV) (d most : Nat) : Option Arg → Option Nat
  | none => some d
  | some x => match arg env x with
    | .int _ i => if 0 ≤ i ∧ i ≤ most then some i.toNat else none
    | _ => none
def mxA (max : Bool) : AV → AV → Option AV
  | .int k x, .int _ y => some (.int k (if max then (if y > x then y else x) else (if y < x then y else x)))
  | _, _ => none
def mxL (max : Bool) : AV → List AV → Option AV
  | x, [] => some x
  | x, y :: ys => (mxA max x y).bind fun z => mxL max z ys

/-! Maps -/
def keyA : KK → AV → AV → Option Bool
  | .int _, .int i a, .int i' b => if i = i' then some (a == b) else none
  | .bool, .bool a, .bool b => some (a == b)
  | .str, .str a, .str b => some (a == b)
  | _, _, _ => none
abbrev MR := AV × AV × Nat
def findA (kk : KK) (k : AV) : List MR → Nat → Option (Option (Nat × AV))
  | [], _ => some none
  | m :: ms, i => match keyA kk k m.1 with
    | some true => some (some (i, m.2.1))
    | some false => findA kk k ms (i + 1)
    | none => none
def isKeyA : KK → AV → Bool
  | .int k, .int i _ => decide (i = k)
  | .bool, .bool _ => true
  | .str, .str _ => true
  | _, _ => false
def findK (kk : KK) (k : AV) (ms : List MR) : Option (Option (Nat × AV)) := if isKeyA kk k then findA kk k ms 0 else none
def zipM (ks vs : List AV) : List MR := (ks.zip vs).map fun p => (p.1, p.2, 0)
def foundA (ok : Bool) (zero : AV) : Option (Nat × AV) → AV
  | some (_, v) => if ok then .tup [v, .bool true] else v
  | none => if ok then .tup [zero, .bool false] else zero
def modM (ms : List MR) (i : Nat) (v : AV) : List MR := ms.modify i fun m => (m.1, v, m.2.2)
def bornM (ms : List MR) (i : Nat) : Nat := ((ms[i]?).map (·.2.2)).getD 0
def stampM (b : Int) : List MR → Nat → Option Nat
  | [], _ => none
  | m :: ms, i => if (m.2.2 : Int) == b then some i else stampM b ms (i + 1)
def lookT (t : TypeId) : List (TypeId × FuncId) → Option FuncId
  | [] => none
  | (u, f) :: l => if u = t then some f else lookT t l
def AV.isPan : AV → Bool
  | .pan _ => true
  | _ => false

/-! Calls: arguments as they may be read; results as nobody else knows them. -/
/-- No memory at all. -/
def AV.flat1 : AV → Bool
  | .int .. | .bool _ | .str _ | .nilS | .nilP | .nilF | .mapN | .ifcN => true
  | _ => false
def AV.flat : AV → Bool
  | .agg cs => cs.all AV.flat1
  | v => v.flat1
/-- No place of the evaluator's memory is named. -/
def AV.noId : AV → Bool
  | .int .. | .bool _ | .str _ | .lst .. | .ptrL .. | .emp _ | .nilS | .nilP | .nilF | .mapN | .mapL .. | .ifcN => true
  | .ifc _ v => v.flat
  | .fn _ a b => a.all AV.flat && b.all AV.flat
  | _ => false
def reifyW (f : AV → Option (AV × List Nat)) : List AV → Option (List AV × List Nat)
  | [] => some ([], [])
  | v :: vs => match f v, reifyW f vs with
    | some (a, r), some (as, rs) => some (a :: as, r ++ rs)
    | _, _ => none
def reifyWW (f : AV → Option (AV × List Nat)) : List (List AV) → Option (List (List AV) × List Nat)
  | [] => some ([], [])
  | x :: xs => match reifyW f x, reifyWW f xs with
    | some (a, r), some (as, rs) => some (a :: as, r ++ rs)
    | _, _ => none
def chunks (sz n : Nat) (l : List AV) : List (List AV) := (List.range n).map fun k => (l.drop (k * sz)).take sz
/-- Made one after the other, before now. -/
def ascB (lo cl : Nat) : List MR → Bool
  | [] => true
  | m :: ms => decide (lo ≤ m.2.2) && decide (m.2.2 < cl) && ascB (m.2.2 + 1) cl ms
def subOf (H : Heap) (id i j sz len : Nat) : Option (List (List AV)) :=
  match hget H id with
  | some (.row _ xs) => match xs[i]? with
    | some x => if j + len * sz ≤ x.length then some (chunks sz len (x.drop j)) else none
    | none => none
  | _ => none
def reifyV (f : AV → Option (AV × List Nat)) : AV → Option (AV × List Nat)
  | .agg cs => (reifyW f cs).map fun p => (.agg p.1, p.2)
  | v => f v
def reifyD (H : Heap) : Nat → AV → Option (AV × List Nat)
  | 0, v => if v.noId then some (v, []) else none
  | d + 1, v => match v with
    | .own _ _ 0 => some (.emp false, [])
    | .own id off len =>
      match hget H id with
      | some (.row s xs) => if off + len ≤ xs.length then (reifyWW (reifyD H d) ((xs.drop off).take len)).map fun p => (.lst s p.1, id :: p.2) else none
      | _ => none
    | .sub id i j sz len => (subOf H id i j sz len).bind fun ys => (reifyWW (reifyD H d) ys).map fun p => (.lst sz p.1, id :: p.2)
    | .map id =>
      match hget H id with
      | some (.map ms cl) => if ms.all (fun m => m.1.flat1) = true ∧ ascB 0 cl ms = true then (reifyW (reifyV (reifyD H d)) (ms.map (·.2.1))).map fun p => (.mapL (ms.map (·.1)) p.1, id :: p.2) else none
      | _ => none
    | v => if v.noId then some (v, []) else none
def reifyC (H : Heap) (v : AV) : Option (AV × List Nat) := reifyD H 4 v
def reifyL (H : Heap) : List AV → Option (List AV × List Nat)
  | [] => some ([], [])
  | v :: vs => match reifyC H v, reifyL H vs with
    | some (a, r), some (as, rs) => some (a :: as, r ++ rs)
    | _, _ => none
def reify (H : Heap) : AV → Option (AV × List Nat)
  | .agg cs => (reifyL H cs).map fun p => (.agg p.1, p.2)
  | v => reifyC H v
def reifyArgs (H : Heap) : List AV → Option (List AV × List Nat)
  | [] => some ([], [])
  | v :: vs => match reify H v, reifyArgs H vs with
    | some (a, r), some (as, rs) => some (a :: as, r ++ rs)
    | _, _ => none
/-- A result's cell, as nobody else knows it; the blocks that it is of. -/
def detachC (H : Heap) : AV → Option (AV × List Nat)
  | .own id off len =>
    match hget H id with
    | some (.row s xs) => if off + len ≤ xs.length ∧ (((xs.drop off).take len).all (fun x => x.all AV.noId)) = true then some (.fresh s ((xs.drop off).take len), [id]) else none
    | _ => none
  | .sub id i j sz len => (subOf H id i j sz len).bind fun ys => if (ys.all (fun x => x.all AV.noId)) = true then some (.fresh sz ys, [id]) else none
  | v => if v.noId then some (v, []) else none
def detachL (H : Heap) : List AV → Option (List AV × List Nat)
  | [] => some ([], [])
  | v :: vs => match detachC H v, detachL H vs with
    | some (a, r), some (as, rs) => some (a :: as, r ++ rs)
    | _, _ => none
def detach1 (H : Heap) : AV → Option (AV × List Nat)
  | .agg cs => (detachL H cs).map fun p => (.agg p.1, p.2)
  | v => detachC H v
def detachM (H : Heap) : List AV → Option (List AV × List Nat)
  | [] => some ([], [])
  | v :: vs => match detach1 H v, detachM H vs with
    | some (a, r), some (as, rs) => some (a :: as, r ++ rs)
    | _, _ => none
def detach (H : Heap) : AV → Option (AV × List Nat)
  | .tup cs => (detachM H cs).map fun p => (.tup p.1, p.2)
  | v => detach1 H v
def attachC (nx : Nat) : AV → AV × Wr × Nat
  | .fresh s xs => (.own nx 0 xs.length, [(nx, some (.row s xs))], nx + 1)
  | v => (v, [], nx)
def attachL (nx : Nat) : List AV → List AV × Wr × Nat
  | [] => ([], [], nx)
  | v :: vs =>
    let p := attachC nx v
    let q := attachL p.2.2 vs
    (p.1 :: q.1, p.2.1 ++ q.2.1, q.2.2)
def attach1 (nx : Nat) : AV → AV × Wr × Nat
  | .agg cs => let p := attachL nx cs; (.agg p.1, p.2.1, p.2.2)
  | v => attachC nx v
def attachM (nx : Nat) : List AV → List AV × Wr × Nat
  | [] => ([], [], nx)
  | v :: vs =>
    let p := attach1 nx v
    let q := attachM p.2.2 vs
    (p.1 :: q.1, p.2.1 ++ q.2.1, q.2.2)
def attach (nx : Nat) : AV → AV × Wr × Nat
  | .tup cs => let p := attachM nx cs; (.tup p.1, p.2.1, p.2.2)
  | v => attach1 nx v
def hasLstL : List AV → Bool
  | [] => false
  | .lst .. :: _ | .ptrL .. :: _ | .mapL .. :: _ => true
  | _ :: cs => hasLstL cs
def AV.hasLst0 : AV → Bool
  | .lst .. | .ptrL .. | .mapL .. => true
  | .fresh _ xs => xs.any hasLstL
  | _ => false
def AV.hasLst1 : AV → Bool
  | .agg cs => cs.any AV.hasLst0
  | v => v.hasLst0
def AV.hasLst : AV → Bool
  | .tup vs => vs.any AV.hasLst1
  | v => v.hasLst1

inductive OpR where
  | eff (v : AV) (rd : List Nat) (wr : Wr) (nx : Nat)
  | whole (v : AV) (H : Heap)
/-- What is called: a function; a function on arguments that name none of the evaluator's memory, its result nobody else's; a round of a loop. -/
inductive Cal where
  | fn (f : FuncId)
  | pu (f : FuncId)
  | yl (id : Nat)
  | df (f : FuncId) (p : Option Value)
abbrev Cb := Cal → List AV → Heap → Option (AV × Heap)
def callOp (T : FuncId → Option IFn) (cb : Cb) (f : FuncId) (args : List AV) (H : Heap) (nx : Nat) : Option OpR :=
  match T f with
  | none => none
  | some fn =>
    if fn.byref then (cb (.fn f) args H).bind fun p => if p.1.isPan then none else some (.whole p.1 p.2)
    else match reifyArgs H args with
      | some (args', rd) =>
        match cb (.pu f) args' noH with
        | some (t, _) => if rd = [] ∨ t.hasLst = false then let p := attach nx t; some (.eff p.1 rd p.2.1 p.2.2) else none
        | none => none
      | none => none
def evalOp (T : FuncId → Option IFn) (cb : Cb) (env : List AV) (H : Heap) (nx : Nat) : PO → Option OpR
  | .mv x => some (.eff (arg env x) [] [] nx)
  | .pick c a b => match arg env c with
    | .bool c => some (.eff (if c then arg env a else arg env b) [] [] nx)
    | _ => none
  | .new cells => if cells.all AV.one then some (.eff (.ptr nx 0 0) [] [(nx, some (.row cells.length [cells]))] (nx + 1)) else none
  | .box x => let cs := (arg env x).cells; if cs.all AV.one then some (.eff (.ptr nx 0 0) [] [(nx, some (.row cs.length [cs]))] (nx + 1)) else none
  | .build zero parts => (fillA env parts zero).map fun cs => .eff (.agg cs) [] [] nx
  | .buildS sz n zero parts => if n * sz ≤ 16777216 ∧ zero.length = sz ∧ zero.all AV.one = true then
      (fillS env sz parts (List.replicate n zero)).map fun xs => .eff (.own nx 0 n) [] [(nx, some (.row sz xs))] (nx + 1) else none
  | .load n x => match arg env x with
    | .ptr id i j => match hget H id with
      | some (.row _ xs) => (xs[i]?).bind fun x => (part n x j).map fun v => .eff v [id] [] nx
      | _ => none
    | .ptrL _ xs i j => (xs[i]?).bind fun x => (part n x j).map fun v => .eff v [] [] nx
    | _ => none
  | .store n x y => match arg env x with
    | .ptr id i j => match hget H id with
      | some (.row s xs) =>
        let cs := (arg env y).cells
        if cs.length = n ∧ cs.all AV.one = true then (xs[i]?).bind fun x => (put x j cs).map fun x' => .eff undefA [id] [(id, some (.row s (xs.set i x')))] nx else none
      | _ => none
    | _ => none
  | .fieldA off x => match arg env x with
    | .ptr id i j => some (.eff (.ptr id i (j + off)) [] [] nx)
    | .ptrL s xs i j => some (.eff (.ptrL s xs i (j + off)) [] [] nx)
    | _ => none
  | .indexS sz x i => match arg env x with
    | .lst s xs => if s = sz then (idx (arg env i) xs.length).map fun i => .eff (.ptrL s xs i 0) [] [] nx else none
    | .own id off len => match hget H id with
      | some (.row s xs) => if s = sz then (idx (arg env i) len).map fun i => .eff (.ptr id (off + i) 0) [id] [] nx else none
      | _ => none
    | .sub id a j s len => if s = sz then (idx (arg env i) len).map fun i => .eff (.ptr id a (j + i * s)) [] [] nx else none
    | _ => none
  | .cpy sz x y => match arg env x, elems H sz (arg env y) with
    | .own id off len, some (ys, rd) => match hget H id with
      | some (.row s xs) => if s = sz ∧ off + len ≤ xs.length ∧ 0 < min ys.length len then
          let n := min ys.length len
          some (.eff (.int .i64 n) (id :: rd) [(id, some (.row s (xs.take off ++ ys.take n ++ xs.drop (off + n))))] nx) else none
      | _ => none
    | _, _ => none
  | .nck x => match arg env x with
    | .ptr id i j => some (.eff (.ptr id i j) [] [] nx)
    | .ptrL s xs i j => some (.eff (.ptrL s xs i j) [] [] nx)
    | _ => none
  | .strX x i => match arg env x, arg env i with
    | .str s, .int _ i => if 0 ≤ i then (s[i.toNat]?).map fun b => .eff (.int .u8 b.toNat) [] [] nx else none
    | _, _ => none
  | .bstr x => match elems H 1 (arg env x) with
    | some (ys, rd) => (bytesA ys).map fun bs => .eff (.str ⟨bs.toArray⟩) rd [] nx
    | none => none
  | .eqS neg x y => match arg env x, arg env y with
    | .str s, .str t => some (.eff (.bool (if neg then !(s.data.toList == t.data.toList) else (s.data.toList == t.data.toList))) [] [] nx)
    | _, _ => none
  | .slA sz n x hi => match arg env x with
    | .ptr id i j => match hget H id with
      | some (.row _ xs) => match xs[i]? with
        | some x => if j + n * sz ≤ x.length then (bnd env n n hi).map fun h => .eff (.sub id i j sz h) [id] [] nx else none
        | none => none
      | _ => none
    | _ => none
  | .indexA len sz x i => match arg env x with
    | .ptr id a j => (idx (arg env i) len).map fun i => .eff (.ptr id a (j + i * sz)) [] [] nx
    | .ptrL s xs a j => (idx (arg env i) len).map fun i => .eff (.ptrL s xs a (j + i * sz)) [] [] nx
    | _ => none
  | .field n off x => match arg env x with
    | .agg cs => (part n cs off).map fun v => .eff v [] [] nx
    | _ => none
  | .indexV len n sz x i => match arg env x with
    | .agg cs => (idx (arg env i) len).bind fun i => (part n cs (i * sz)).map fun v => .eff v [] [] nx
    | _ => none
  | .bin op x y => (binA op (arg env x) (arg env y)).map fun v => .eff v [] [] nx
  | .eqv neg true ks x y => match arg env x, arg env y with
    | .agg cs, .agg ds => (eqL ks cs ds).map fun b => .eff (.bool (if neg then !b else b)) [] [] nx
    | _, _ => none
  | .eqv neg false ks x y => (eqL ks [arg env x] [arg env y]).map fun b => .eff (.bool (if neg then !b else b)) [] [] nx
  | .bad => none
  | .un op x => (unA op (arg env x)).map fun v => .eff v [] [] nx
  | .conv k x => match arg env x with
    | .int _ n => some (.eff (.int k (k.wrap n)) [] [] nx)
    | _ => none
  | .mkS sz bytes zero l c => match arg env l, arg env c with
    | .int _ l, .int _ c => if 0 ≤ l ∧ l ≤ c ∧ (c + 1) * (bytes + 1) ≤ 1099511627776 ∧ zero.length = sz ∧ zero.all AV.one = true then some (.eff (.own nx 0 l.toNat) [] [(nx, some (.row sz (List.replicate c.toNat zero)))] (nx + 1)) else none
    | _, _ => none
  | .sl sz x lo hi => match arg env x with
    | .lst s xs => if s = sz then (bnd env xs.length xs.length hi).bind fun h => (bnd env 0 h lo).map fun l => .eff (if xs.isEmpty = true ∨ l < h then .lst s ((xs.drop l).take (h - l)) else .emp false) [] [] nx else none
    | .own id off len => match hget H id with
      | some (.row s xs) => if s = sz then (bnd env len len hi).bind fun h => (bnd env 0 h lo).map fun l => .eff (if l = 0 ∨ l < h then .own id (off + l) (h - l) else .emp false) [id] [] nx else none
      | _ => none
    | .emp z => (bnd env 0 0 hi).bind fun h => (bnd env 0 h lo).map fun l => .eff (.emp z) [] [] nx
    | .nilS => (bnd env 0 0 hi).bind fun h => (bnd env 0 h lo).map fun l => .eff .nilS [] [] nx
    | _ => none
  | .sl3 sz x lo hi mx => match arg env x with
    | .lst s xs => if s = sz then (bnd env 0 xs.length (some mx)).bind fun m => (bnd env 0 m (some hi)).bind fun h => (bnd env 0 h lo).map fun l =>
        .eff (if xs.isEmpty then .lst s [] else if l < h then .lst s ((xs.drop l).take (h - l)) else .emp (m == l)) [] [] nx else none
    | .own id off len => match hget H id with
      | some (.row s xs) => if s = sz then (bnd env 0 len (some mx)).bind fun m => (bnd env 0 m (some hi)).bind fun h => (bnd env 0 h lo).map fun l =>
          .eff (if l < h then (if m = h then .clp id (off + l) (h - l) else .own id (off + l) (h - l)) else .emp (m == l)) [id] [] nx else none
      | _ => none
    | .emp _ => (bnd env 0 0 (some mx)).bind fun m => (bnd env 0 m (some hi)).bind fun h => (bnd env 0 h lo).map fun l => .eff (.emp true) [] [] nx
    | .nilS => (bnd env 0 0 (some mx)).bind fun m => (bnd env 0 m (some hi)).bind fun h => (bnd env 0 h lo).map fun l => .eff .nilS [] [] nx
    | _ => none
  | .ext x i => match arg env x with
    | .tup vs => (vs[i]?).map fun v => .eff v [] [] nx
    | _ => none
  | .mkF f first caps => some (.eff (.fn f (first.map (arg env)) (caps.map (arg env))) [] [] nx)
  | .call f args => callOp T cb f (args.map (arg env)) H nx
  | .callv g args => match arg env g with
    | .fn f first caps => callOp T cb f (first ++ args.map (arg env) ++ caps) H nx
    | .yld id => (cb (.yl id) (args.map (arg env)) H).map fun p => .whole p.1 p.2
    | _ => none
  | .mkM => some (.eff (.map nx) [] [(nx, some (.map [] 0))] (nx + 1))
  | .look kk zero ok m k => match arg env m with
    | .mapN => (findK kk (arg env k) []).map fun r => .eff (foundA ok zero r) [] [] nx
    | .mapL ks vs => (findK kk (arg env k) (zipM ks vs)).map fun r => .eff (foundA ok zero r) [] [] nx
    | .map id => match hget H id with
      | some (.map ms _) => (findK kk (arg env k) ms).map fun r => .eff (foundA ok zero r) [id] [] nx
      | _ => none
    | _ => none
  | .mset kk m k x => match arg env m with
    | .map id => match hget H id with
      | some (.map ms cl) => match findK kk (arg env k) ms with
        | some (some (i, _)) => some (.eff undefA [id] [(id, some (.map (modM ms i (arg env x)) cl))] nx)
        | some none => some (.eff undefA [id] [(id, some (.map (ms ++ [(arg env k, arg env x, cl)]) (cl + 1)))] nx)
        | none => none
      | _ => none
    | _ => none
  | .ment kk zero m k => match arg env m with
    | .map id => match hget H id with
      | some (.map ms cl) => match findK kk (arg env k) ms with
        | some (some (i, v)) => some (.eff (.tup [v, .int .i64 (bornM ms i)]) [id] [(id, some (.map ms cl))] nx)
        | some none => some (.eff (.tup [zero, .int .i64 cl]) [id] [(id, some (.map (ms ++ [(arg env k, zero, cl)]) (cl + 1)))] nx)
        | none => none
      | _ => none
    | _ => none
  | .mest m s x => match arg env m, arg env s with
    | .map id, .int _ b => match hget H id with
      | some (.map ms cl) => (stampM b ms 0).map fun i => .eff undefA [id] [(id, some (.map (modM ms i (arg env x)) cl))] nx
      | _ => none
    | _, _ => none
  | .mdel kk m k => match arg env m with
    | .mapN => if isKeyA kk (arg env k) then some (.eff undefA [] [] nx) else none
    | .map id => match hget H id with
      | some (.map ms cl) => match findK kk (arg env k) ms with
        | some (some (i, _)) => some (.eff undefA [id] [(id, some (.map (ms.eraseIdx i) cl))] nx)
        | some none => some (.eff undefA [id] [(id, some (.map ms cl))] nx)
        | none => none
      | _ => none
    | _ => none
  | .lenM m => match arg env m with
    | .mapN => some (.eff (.int .i64 0) [] [] nx)
    | .mapL ks _ => some (.eff (.int .i64 ks.length) [] [] nx)
    | .map id => match hget H id with
      | some (.map ms _) => some (.eff (.int .i64 ms.length) [id] [] nx)
      | _ => none
    | _ => none
  | .mkI t x => some (.eff (.ifc t (arg env x)) [] [] nx)
  | .tas t z x => match arg env x, z with
    | .ifc u v, none => if u = t then some (.eff v [] [] nx) else none
    | .ifc u v, some z => some (.eff (if u = t then .tup [v, .bool true] else .tup [z, .bool false]) [] [] nx)
    | .ifcN, some z => some (.eff (.tup [z, .bool false]) [] [] nx)
    | _, _ => none
  | .isNilI neg x => match arg env x with
    | .ifcN => some (.eff (.bool !neg) [] [] nx)
    | .ifc _ _ => some (.eff (.bool neg) [] [] nx)
    | _ => none
  | .inv tbl x args => match arg env x with
    | .ifc t v => match lookT t tbl with
      | some f => callOp T cb f (v :: args.map (arg env)) H nx
      | none => none
    | _ => none
  | .dfr _ _ | .pnc _ | .rcv => none
  | .lenS x => match arg env x with
    | .lst _ xs => some (.eff (.int .i64 xs.length) [] [] nx)
    | .own _ _ len => some (.eff (.int .i64 len) [] [] nx)
    | .sub _ _ _ _ len => some (.eff (.int .i64 len) [] [] nx)
    | .clp _ _ len => some (.eff (.int .i64 len) [] [] nx)
    | .nilS | .emp _ => some (.eff (.int .i64 0) [] [] nx)
    | _ => none
  | .capS x => match arg env x with
    | .nilS | .emp true => some (.eff (.int .i64 0) [] [] nx)
    | _ => none
  | .isNil neg x => match arg env x with
    | .nilS => some (.eff (.bool !neg) [] [] nx)
    | .own .. | .emp _ | .lst _ (_ :: _) => some (.eff (.bool neg) [] [] nx)
    | _ => none
  | .clr sz zero x => match arg env x with
    | .nilS | .emp _ => some (.eff undefA [] [] nx)
    | .own id off len => match hget H id with
      | some (.row s xs) => if s = sz ∧ off + len ≤ xs.length ∧ zero.all AV.one = true then some (.eff undefA [id] [(id, some (.row s (xs.take off ++ List.replicate len zero ++ xs.drop (off + len))))] nx) else none
      | _ => none
    | _ => none
  | .lenC n => some (.eff (.int .i64 n) [] [] nx)
  | .app sz bytes x y => match elems H sz (arg env y) with
    | some ([], rd) => match arg env x with
      | .nilS => some (.eff .nilS rd [] nx)
      | .own id off len => some (.eff (.own id off len) rd [] nx)
      | .emp z => some (.eff (.emp z) rd [] nx)
      | _ => none
    | some (ys, rd) => match arg env x with
      | .nilS | .emp true => if (ys.length + 1) * (bytes + 1) ≤ 1099511627776 then some (.eff (.own nx 0 ys.length) rd [(nx, some (.row sz ys))] (nx + 1)) else none
      | .own id off len => match hget H id with
        | some (.row s xs) => if s = sz ∧ off + len ≤ xs.length ∧ (len + ys.length + 1) * (bytes + 1) ≤ 1099511627776 then
            some (.eff (.own nx 0 (len + ys.length)) (id :: rd) [(id, none), (nx, some (.row sz ((xs.drop off).take len ++ ys)))] (nx + 1)) else none
        | _ => none
      | .clp id off len => match hget H id with
        | some (.row s xs) => if s = sz ∧ off + len ≤ xs.length ∧ (len + ys.length + 1) * (bytes + 1) ≤ 1099511627776 then
            some (.eff (.own nx 0 (len + ys.length)) (id :: rd) [(nx, some (.row sz ((xs.drop off).take len ++ ys)))] (nx + 1)) else none
        | _ => none
      | _ => none
    | none => none
  | .appZ sz bytes zero x n => match arg env n with
    | .int _ 0 => match arg env x with
      | .nilS => some (.eff .nilS [] [] nx)
      | .own id off len => some (.eff (.own id off len) [] [] nx)
      | .emp z => some (.eff (.emp z) [] [] nx)
      | _ => none
    | .int _ n => if 0 ≤ n ∧ zero.length = sz ∧ zero.all AV.one = true then match arg env x with
      | .nilS | .emp true => if (n + 1) * (bytes + 1) ≤ 1099511627776 then some (.eff (.own nx 0 n.toNat) [] [(nx, some (.row sz (List.replicate n.toNat zero)))] (nx + 1)) else none
      | _ => none
      else none
    | _ => none
  | .mx max xs => match xs with
    | [] => none
    | x :: xs => (mxL max (arg env x) (xs.map (arg env))).map fun v => .eff v [] [] nx

/-! Equal values -/
def eq0 : AV → AV → Bool
  | .int k a, .int k' b => decide (k = k') && a == b
  | .bool a, .bool b => a == b
  | .nilS, .nilS | .nilP, .nilP | .nilF, .nilF | .mapN, .mapN | .ifcN, .ifcN => true
  | .str a, .str b => a == b
  | .emp a, .emp b => a == b
  | .own a b c, .own a' b' c' => a == a' && b == b' && c == c'
  | .ptr a b c, .ptr a' b' c' => a == a' && b == b' && c == c'
  | .clp a b c, .clp a' b' c' => a == a' && b == b' && c == c'
  | .sub a b c s l, .sub a' b' c' s' l' => a == a' && b == b' && c == c' && s == s' && l == l'
  | .yld a, .yld b => a == b
  | .map a, .map b => a == b
  | _, _ => false
def eqLs {α : Type} (f : α → α → Bool) : List α → List α → Bool
  | [], [] => true
  | a :: as, b :: bs => f a b && eqLs f as bs
  | _, _ => false
def eqD : Nat → AV → AV → Bool
  | 0, a, b => eq0 a b
  | d + 1, a, b => match a, b with
    | .agg x, .agg y => eqLs (eqD d) x y
    | .tup x, .tup y => eqLs (eqD d) x y
    | .mapL x y, .mapL x' y' => eqLs (eqD d) x x' && eqLs (eqD d) y y'
    | .ifc t x, .ifc u y => t == u && eqD d x y
    | .ptrL s x i j, .ptrL s' y i' j' => s == s' && i == i' && j == j' && eqLs (eqLs (eqD d)) x y
    | .lst s x, .lst s' y => s == s' && eqLs (eqLs (eqD d)) x y
    | .fresh s x, .fresh s' y => s == s' && eqLs (eqLs (eqD d)) x y
    | .fn f x y, .fn g x' y' => f == g && eqLs (eqD d) x x' && eqLs (eqD d) y y'
    | a, b => eq0 a b

/-! A call that works on the caller's memory, as one operation among others: it is made on what its arguments lead to, and nothing else. -/
mutual
def AV.ids : AV → List Nat
  | .agg cs => idsL cs
  | .tup cs => idsL cs
  | .fn _ a b => idsL a ++ idsL b
  | .ifc _ v => v.ids
  | .own id _ _ => [id]
  | .ptr id _ _ => [id]
  | .yld id => [id]
  | .map id => [id]
  | .sub id _ _ _ _ => [id]
  | .clp id _ _ => [id]
  | _ => []
def idsL : List AV → List Nat
  | [] => []
  | v :: vs => v.ids ++ idsL vs
end
def Blk.ids : Blk → Option (List Nat)
  | .row _ xs => some (xs.flatMap idsL)
  | .map ms _ => some (ms.flatMap fun m => m.1.ids ++ m.2.1.ids)
  | _ => none
def reach (H : Heap) : Nat → List Nat → List Nat → List Nat
  | 0, _, seen => seen
  | _ + 1, [], seen => seen
  | n + 1, i :: todo, seen => if seen.contains i then reach H n todo seen else match (hget H i).bind Blk.ids with
    | some l => reach H n (l ++ todo) (i :: seen)
    | none => seen
def closedOK (H : Heap) (nx : Nat) (ids : List Nat) : Bool := ids.all fun i => decide (i < nx) && (match (hget H i).bind Blk.ids with
  | some l => l.all ids.contains
  | none => false)
def maskL (ids : List Nat) : List (Option Blk) → Nat → List (Option Blk)
  | [], _ => []
  | b :: bs, i => (if ids.contains i then b else none) :: maskL ids bs (i + 1)
def eqBlk : Blk → Blk → Bool
  | .row s xs, .row s' ys => s == s' && eqLs (eqLs (eqD 8)) xs ys
  | .map ms c, .map ns c' => c == c' && eqLs (fun m n => eqD 8 m.1 n.1 && eqD 8 m.2.1 n.2.1 && m.2.2 == n.2.2) ms ns
  | _, _ => false
def sameB : Option Blk → Option Blk → Bool
  | some a, some b => eqBlk a b
  | none, none => true
  | _, _ => false
/-- What was written. -/
def wrOf (H H' : Heap) (ids : List Nat) (nx : Nat) : Wr :=
  (List.range H'.l.length).filterMap fun i => if i < nx then (if ids.contains i && !sameB (hget H i) (hget H' i) then some (i, hget H' i) else none) else (if (hget H' i).isSome then some (i, hget H' i) else none)
def okId (ids : List Nat) (nx nx' : Nat) (i : Nat) : Bool := ids.contains i || (decide (nx ≤ i) && decide (i < nx'))
def wholeC (T : FuncId → Option IFn) (cb : Cb) (f : FuncId) (args : List AV) (H : Heap) (nx : Nat) : Option OpR :=
  let ids := reach H 400 (idsL args) []
  if closedOK H nx ids && (idsL args).all ids.contains && (T f).isSome then
    match cb (.fn f) args ⟨maskL ids H.l 0, nx⟩ with
    | some (v, H') =>
      let wr := wrOf H H' ids nx
      if !v.isPan && decide (nx ≤ H'.nx) && decide (H'.l.length ≤ H'.nx) && decide (H.l.length ≤ H'.l.length) && v.ids.all (okId ids nx H'.nx) && ((List.range H'.l.length).all fun i => match hget H' i with
          | none => true
          | some b => (ids.contains i || decide (nx ≤ i)) && (match b.ids with
            | some l => l.all (okId ids nx H'.nx)
            | none => false)) then some (.eff v ids wr H'.nx) else none
    | none => none
  else none
def refOp (T : FuncId → Option IFn) (env : List AV) : PO → Option (FuncId × List AV)
  | .call f args => match T f with
    | some fn => if fn.byref then some (f, args.map (arg env)) else none
    | none => none
  | .callv g args => match arg env g with
    | .fn f first caps => match T f with
      | some fn => if fn.byref then some (f, first ++ args.map (arg env) ++ caps) else none
      | none => none
    | _ => none
  | .inv tbl x args => match arg env x with
    | .ifc t v => match lookT t tbl with
      | some f => match T f with
        | some fn => if fn.byref then some (f, v :: args.map (arg env)) else none
        | none => none
      | none => none
    | _ => none
  | _ => none
/-- A call that touches none of the memory. -/
def freeC (T : FuncId → Option IFn) (cb : Cb) (f : FuncId) (args : List AV) (nx : Nat) : Option OpR :=
  if (idsL args).all (fun i => decide (i < nx)) && (T f).isSome then
    match cb (.fn f) args ⟨[], nx⟩ with
    | some (v, H') => if !v.isPan && decide (nx ≤ H'.nx) && v.ids.all (idsL args).contains then some (.eff v [] [] H'.nx) else none
    | none => none
  else none
def dmOf (T : FuncId → Option IFn) (f : FuncId) : Nat := ((T f).map IFn.dm).getD 0
def evalD (T : FuncId → Option IFn) (cb : Cb) (env : List AV) (H : Heap) (nx : Nat) (io : PO) : Option OpR :=
  match refOp T env io with
  | some (f, args) => if dmOf T f = 2 then evalOp T cb env H nx io else if dmOf T f = 1 then freeC T cb f args nx else wholeC T cb f args H nx
  | none => evalOp T cb env H nx io
structure St where
  env : List AV
  H : Heap
def setD (env : List AV) (dst : Option Nat) (v : AV) : List AV :=
  match dst with
  | some d => setK env d v
  | none => env
def wantedA (env : List AV) : Option (Nat × Bool) → Bool
  | none => true
  | some (j, want) => match env.getD j undefA with
    | .bool b => b == want
    | _ => false
def evalOps (T : FuncId → Option IFn) (cb : Cb) : List IOp → St → Option St
  | [], st => some st
  | o :: os, st =>
    if wantedA st.env o.guard then
      match evalOp T cb st.env st.H st.H.nx o.op with
      | some (.eff v _ wr nx) => evalOps T cb os ⟨setD st.env o.dst v, wrH st.H wr nx⟩
      | some (.whole v H) => evalOps T cb os ⟨setD st.env o.dst v, H⟩
      | none => none
    else evalOps T cb os ⟨setD st.env o.dst undefA, st.H⟩
/-- What an operation touched. -/
structure Foot where
  rd : List Nat
  wr : List Nat
  /-- 0: touches nothing; 1: what is listed; 2: all. -/
  k : Nat
def clash (a b : Foot) : Bool := (a.k == 2 && b.k != 0) || (b.k == 2 && a.k != 0) || a.wr.any (fun i => b.rd.contains i || b.wr.contains i) || b.wr.any (fun i => a.rd.contains i)
/-- Whether a new footprint may stand behind those that are there (the newest first, with their number). -/
def footOK (f : Foot) (bef : Nat) : Nat → List Foot → Bool
  | _, [] => true
  | 0, _ :: _ => false
  | n + 1, g :: gs => (bef.testBit n || !clash g f) && footOK f bef n gs
/-- How much an operation touched. -/
def kOf (rd : List Nat) (wr : Wr) (H : Heap) (nx : Nat) : Nat := if rd.isEmpty && wr.isEmpty && decide (nx ≤ H.nx) then 0 else 1
/-- The memory behind an operation that worked on all of it, as one store. -/
def snap (H H' : Heap) : Wr := (List.range (max H.l.length H'.l.length)).map fun i => (i, hget H' i)
def evalDraw (T : FuncId → Option IFn) (cb : Cb) : List IOp → Nat → List Foot → St → Option St
  | [], _, _, st => some st
  | o :: os, n, fs, st =>
    if wantedA st.env o.guard then
      match evalD T cb st.env st.H st.H.nx o.op with
      | some (.eff v rd wr nx) => let f : Foot := ⟨rd, wr.map (·.1), kOf rd wr st.H nx⟩; if footOK f o.bef n fs then evalDraw T cb os (n + 1) (f :: fs) ⟨setD st.env o.dst v, wrH st.H wr nx⟩ else none
      | some (.whole v H) => let wr := snap st.H H; let f : Foot := ⟨[], wr.map (·.1), 2⟩; if footOK f o.bef n fs && decide (st.H.nx ≤ H.nx) then evalDraw T cb os (n + 1) (f :: fs) ⟨setD st.env o.dst v, wrH st.H wr H.nx⟩ else none
      | none => none
    else evalDraw T cb os (n + 1) (⟨[], [], 0⟩ :: fs) ⟨setD st.env o.dst undefA, st.H⟩
/-- What is to be done when a function is left: marks that loops over functions left; deferred calls. -/
inductive DE where
  | mk (id : Nat)
  | fn (f : FuncId) (args : List AV)
/-- The state of a run: with what is to be done at its end. -/
structure RSt where
  st : St
  ds : List DE
/-- What a function panics with. -/
def closV : AV → Option Value
  | .int k n => some (.int k n)
  | .bool b => some (.bool b)
  | .str s => some (.string s)
  | .agg [] => some (.agg #[])
  | .ifcN => some .nilIface
  | .ifc t v => (closV v).map (.iface t)
  | _ => none
def panCall (T : FuncId → Option IFn) (cb : Cb) (f : FuncId) (args : List AV) (H : Heap) : Option (Value × Heap) :=
  match T f with
  | some fn => if fn.byref then match cb (.fn f) args H with
      | some (.pan p, H') => some (p, H')
      | _ => none
    else none
  | none => none
def panOp (T : FuncId → Option IFn) (cb : Cb) (env : List AV) (H : Heap) : PO → Option (Value × Heap)
  | .call f args => panCall T cb f (args.map (arg env)) H
  | .callv g args => match arg env g with
    | .fn f first caps => panCall T cb f (first ++ args.map (arg env) ++ caps) H
    | _ => none
  | .pnc x => match arg env x with
    | .ifc t v => (closV (.ifc t v)).map fun p => (p, H)
    | _ => none
  | _ => none
def dfrOp (env : List AV) : PO → Option DE
  | .dfr g args => match arg env g with
    | .fn f first caps => some (.fn f (first ++ args.map (arg env) ++ caps))
    | _ => none
  | _ => none
/-- Operations, calls that are deferred and panics among them. -/
def evalX (T : FuncId → Option IFn) (cb : Cb) : List IOp → RSt → Option (Ex × RSt)
  | [], r => some (.normal, r)
  | o :: os, r =>
    if wantedA r.st.env o.guard then
      match evalOp T cb r.st.env r.st.H r.st.H.nx o.op with
      | some (.eff v _ wr nx) => evalX T cb os ⟨⟨setD r.st.env o.dst v, wrH r.st.H wr nx⟩, r.ds⟩
      | some (.whole v H) => evalX T cb os ⟨⟨setD r.st.env o.dst v, H⟩, r.ds⟩
      | none => match dfrOp r.st.env o.op with
        | some d => evalX T cb os ⟨⟨setD r.st.env o.dst undefA, r.st.H⟩, d :: r.ds⟩
        | none => match panOp T cb r.st.env r.st.H o.op with
          | some (p, H) => some (.pan p, ⟨⟨r.st.env, H⟩, r.ds⟩)
          | none => none
    else evalX T cb os ⟨⟨setD r.st.env o.dst undefA, r.st.H⟩, r.ds⟩
def iter (f : RSt → Option (Ex × RSt)) : Nat → RSt → Option (Ex × RSt)
  | 0, _ => none
  | n + 1, st => match f st with
    | some (.normal, st') => iter f n st'
    | r => r
/-- A loop over a function begins: its record, and, unless it stands in a round, the mark. -/
def enterH (rd : Option Nat) (H : Heap) (env : List AV) (ps : List Nat) (a b : IC) : Option (Heap × Nat × List DE) :=
  match rd with
  | none => some (wrH H [(H.nx, some .mark), (H.nx + 1, some (.loop env ps a b .ready .normal H.nx))] (H.nx + 2), H.nx + 1, [.mk H.nx])
  | some l => match hget H l with
    | some (.loop _ _ _ _ _ _ d) => some (wrH H [(H.nx, some (.loop env ps a b .ready .normal d))] (H.nx + 1), H.nx, [])
    | _ => none
def leaveH (env : List AV) (H : Heap) (id : Nat) (ds : List DE) : Option (Ex × RSt) :=
  match hget H id with
  | some (.loop _ _ _ _ .busy _ _) => none
  | some (.loop _ _ _ _ _ (.pan _) _) => none
  | some (.loop _ _ _ _ _ pend _) => some (pend, ⟨⟨env, wrH H [(id, none)] 0⟩, ds⟩)
  | _ => none
def run (T : FuncId → Option IFn) (cb : Cb) (m : Nat) (rd : Option Nat) : IC → RSt → Option (Ex × RSt)
  | .skip, st => some (.normal, st)
  | .region ops draw, st => if draw then (evalDraw T cb ops 0 [] st.st).map fun s => (.normal, ⟨s, st.ds⟩) else match evalOps T cb ops st.st with
    | some s => some (.normal, ⟨s, st.ds⟩)
    | none => if rd.isNone then evalX T cb ops st else none
  | .seq a b, st => match run T cb m rd a st with
    | some (.normal, st') => run T cb m rd b st'
    | r => r
  | .cond c a b, st => match arg st.st.env c with
    | .bool true => run T cb m rd a st
    | .bool false => run T cb m rd b st
    | _ => none
  | .block id c, st => match run T cb m rd c st with
    | some (.exit id', st') => if id' = id then some (.normal, st') else some (.exit id', st')
    | r => r
  | .loop c, st => iter (run T cb m rd c) m st
  | .exit id, st => some (.exit id, st)
  | .ret, st => some (.ret, st)
  | .scope c, st => run T cb m rd c st
  | .rangeF g ps a b, st => match arg st.st.env g with
    | .fn f first caps => if (T f).isSome then match enterH rd st.st.H st.st.env ps a b with
        | some (H1, id, ds) => match cb (.fn f) (first ++ [.yld id] ++ caps) H1 with
          | some (v, H2) => if v.isPan then none else leaveH st.st.env H2 id (ds ++ st.ds)
          | none => none
        | none => none
      else none
    | _ => none
  | .bad, st => none
def resV (st : St) : IRes → Option AV
  | .t n => some (st.env.getD n undefA)
  | .cell n k => match st.env.getD n undefA with
    | .ptr id i j => match hget st.H id with
      | some (.row _ xs) => (xs[i]?).bind fun x => part k x j
      | _ => none
    | _ => none
def resL (st : St) : List IRes → Option (List AV)
  | [] => some []
  | r :: rs => match resV st r, resL st rs with
    | some v, some vs => some (v :: vs)
    | _, _ => none
def takeMarks : Heap → List DE → Option Heap
  | H, [] => some H
  | H, .mk id :: ids => match hget H id with
    | some .mark => takeMarks (wrH H [(id, none)] 0) ids
    | _ => none
  | _, .fn _ _ :: _ => none
def setPs : List AV → List Nat → List AV → List AV
  | env, p :: ps, v :: vs => setPs (env.set p v) ps vs
  | env, _, _ => env
def tupV : List AV → AV
  | [v] => v
  | vs => .tup vs
def leaveF (fn : IFn) (r : RSt) : Option (AV × Heap) :=
  match takeMarks r.st.H r.ds with
  | some H => (resL ⟨r.st.env, H⟩ fn.res).map fun vs => (tupV vs, H)
  | none => none
/-- A function is left, returning (none) or panicking. -/
def leaveX (cb : Cb) (fn : IFn) (env : List AV) : Option Value → List DE → Heap → Option (AV × Heap)
  | none, [], H => (resL ⟨env, H⟩ fn.res).map fun vs => (tupV vs, H)
  | some p, [], H => some (.pan p, H)
  | md, .mk id :: ds, H => match hget H id with
    | some .mark => leaveX cb fn env md ds (wrH H [(id, none)] 0)
    | _ => none
  | md, .fn f args :: ds, H => match cb (.df f md) args H with
    | some (.bool true, H') => leaveX cb fn env none ds H'
    | some (.bool false, H') => leaveX cb fn env md ds H'
    | _ => none
def enterR (env : List AV) (ds : List DE) (H : Heap) (id : Nat) : Option RSt :=
  match hget H id with
  | some (.loop env' ps a b .ready pend d) => some ⟨⟨env, wrH H [(id, some (.loop env' ps a b .busy pend d))] 0⟩, ds⟩
  | _ => none
def leaveR (ex : Ex) (H : Heap) (id : Nat) : Option (AV × Heap) :=
  match hget H id with
  | some (.loop env ps a b .busy _ d) => match ex with
    | .normal => some (.bool true, wrH H [(id, some (.loop env ps a b .ready .normal d))] 0)
    | .pan _ => none
    | ex => some (.bool false, wrH H [(id, some (.loop env ps a b .done ex d))] 0)
  | _ => none
def callBody (T : FuncId → Option IFn) (m : Nat) (cb : Cb) (f : FuncId) (args : List AV) (H : Heap) : Option (AV × Heap) :=
  match T f with
  | none => none
  | some fn =>
    match run T cb m none fn.body ⟨⟨args ++ List.replicate (fn.ntmps - args.length) undefA, H⟩, []⟩ with
    | some (.exit _, _) => none
    | some (.pan p, r) => leaveX cb fn r.st.env (some p) r.ds r.st.H
    | some (_, r) => match leaveF fn r with
      | some q => some q
      | none => leaveX cb fn r.st.env none r.ds r.st.H
    | none => none
/-- A value that a function panicked with. -/
def ofPan : Value → Option AV
  | .iface t v => (ofValue1 v).map (.ifc t)
  | _ => none
def isMv : PO → Option Arg
  | .mv x => some x
  | _ => none
def isRcv : PO → Bool
  | .rcv => true
  | _ => false
/-- Operations that may recover: whether they did. -/
def evalR (md : Option Value) : List IOp → Bool → St → Option (Bool × St)
  | [], r, st => some (r, st)
  | o :: os, r, st =>
    if wantedA st.env o.guard then
      match isMv o.op with
      | some x => evalR md os r ⟨setD st.env o.dst (arg st.env x), st.H⟩
      | none => if isRcv o.op then
          match (if r then none else md) with
          | some p => match ofPan p with
            | some v => evalR md os true ⟨setD st.env o.dst v, st.H⟩
            | none => none
          | none => evalR md os r ⟨setD st.env o.dst .ifcN, st.H⟩
        else none
    else evalR md os r ⟨setD st.env o.dst undefA, st.H⟩
/-- Code of a deferred function that may recover. -/
def runR (T : FuncId → Option IFn) (cb : Cb) (m : Nat) (md : Option Value) : IC → Bool → St → Option (Ex × Bool × St)
  | .seq a b, r, st => match runR T cb m md a r st with
    | some (.normal, r', st') => runR T cb m md b r' st'
    | x => x
  | .region ops draw, r, st => if ops.any (fun o => isRcv o.op) then (if draw then none else (evalR md ops r st).map fun p => (.normal, p.1, p.2))
    else match run T cb m none (.region ops draw) ⟨st, []⟩ with
      | some (ex, q) => if q.ds.isEmpty then some (ex, r, q.st) else none
      | none => none
  | c, r, st => match run T cb m none c ⟨st, []⟩ with
    | some (ex, q) => if q.ds.isEmpty then some (ex, r, q.st) else none
    | none => none
/-- A deferred call: whether it recovered. -/
def callDef (T : FuncId → Option IFn) (m : Nat) (cb : Cb) (f : FuncId) (md : Option Value) (args : List AV) (H : Heap) : Option (AV × Heap) :=
  match T f with
  | none => none
  | some fn => match run T cb m none fn.body ⟨⟨args ++ List.replicate (fn.ntmps - args.length) undefA, H⟩, []⟩ with
    | some (.normal, r) => if r.ds.isEmpty then (resL r.st fn.res).map fun _ => (.bool false, r.st.H) else none
    | some (.ret, r) => if r.ds.isEmpty then (resL r.st fn.res).map fun _ => (.bool false, r.st.H) else none
    | some _ => none
    | none => match runR T cb m md fn.body false ⟨args ++ List.replicate (fn.ntmps - args.length) undefA, H⟩ with
      | some (.normal, r, st) => (resL st fn.res).map fun _ => (.bool r, st.H)
      | some (.ret, r, st) => (resL st fn.res).map fun _ => (.bool r, st.H)
      | _ => none
/-- A result as it may be read: nobody writes it any more. -/
def reifyT (H : Heap) : AV → Option (AV × List Nat)
  | .tup cs => (reifyArgs H cs).map fun p => (.tup p.1, p.2)
  | v => reify H v
def AV.noId1 : AV → Bool
  | .agg cs => cs.all AV.noId
  | v => v.noId
def AV.noIdT : AV → Bool
  | .tup vs => vs.all AV.noId1
  | v => v.noId1
def pureZ : Option (AV × Heap) → Option (AV × Heap)
  | some (v, H) => match reifyT H v with
    | some (t, _) => if t.noIdT then some (t, noH) else none
    | none => none
  | none => none
/-- A result: nobody else's, or written no more. -/
def pureR : Option (AV × Heap) → Option (AV × Heap)
  | some (v, H) => match detach H v with
    | some (t, ids) => if ids.Nodup then some (t, noH) else none
    | none => pureZ (some (v, H))
  | none => none
def callRound (T : FuncId → Option IFn) (m : Nat) (cb : Cb) (id : Nat) (args : List AV) (H : Heap) : Option (AV × Heap) :=
  match hget H id with
  | some (.loop env ps a b _ _ _) => if args.length = ps.length then
      match run T cb m (some id) a ⟨⟨setPs env ps args, H⟩, []⟩ with
      | some (.normal, r) => match enterR r.st.env r.ds r.st.H id with
        | some r' => match run T cb m (some id) b r' with
          | some (ex, r'') => leaveR ex r''.st.H id
          | none => none
        | none => none
      | _ => none
    else none
  | _ => none
/-! What is known of calls already -/
structure Memo where
  f : FuncId
  args : List AV
  t : AV
structure MemoF where
  f : FuncId
  args : List AV
  H : Heap
  v : AV
  H' : Heap
/-- Calls that are known, by a key of their arguments. -/
inductive MemT where
  | nil
  | one (k : Memo) (r : MemT)
  | oneF (k : MemoF) (r : MemT)
  | node (n : Nat) (l r : MemT)
def hkeyI : AV → Nat
  | .int _ (.ofNat m) => m
  | .int _ (.negSucc m) => m + 7
  | .bool b => cond b 1 0
  | _ => 3
def hkeyR : List AV → Nat → Nat
  | [], a => a
  | c :: cs, a => hkeyR cs ((a * 31 + hkeyI c) % 65521)
def hkeyRs : List (List AV) → Nat → Nat
  | [], a => a
  | r :: rs, a => hkeyRs rs (hkeyR r a)
def hkeyA (a : Nat) : AV → Nat
  | .lst _ xs => hkeyRs xs (a + 1)
  | v => (a * 31 + hkeyI v) % 65521
def hkeyL : List AV → Nat → Nat
  | [], a => a
  | v :: vs, a => hkeyL vs (hkeyA a v)
def findT (f : FuncId) (args : List AV) (key : Nat) : MemT → Option AV
  | .nil => none
  | .one k r => cond (Nat.beq k.f f && eqLs (eqD 6) k.args.reverse args.reverse) (some k.t) (findT f args key r)
  | .oneF _ r => findT f args key r
  | .node n l r => cond (Nat.ble key n) (findT f args key l) (findT f args key r)
def sameM : Option Blk → Option Blk → Bool
  | some .mark, some .mark => true
  | a, b => sameB a b
def eqHp (H K : Heap) : Bool := Nat.beq H.nx K.nx && eqLs sameM H.l K.l
def eqVal : Nat → Value → Value → Bool
  | 0, _, _ => false
  | d + 1, .iface t v, .iface u w => t == u && eqVal d v w
  | _ + 1, .int k n, .int k' n' => k == k' && n == n'
  | _ + 1, .nilIface, .nilIface => true
  | _ + 1, _, _ => false
def eqP : AV → AV → Bool
  | .pan p, .pan q => eqVal 6 p q
  | a, b => eqD 6 a b
def findTF (f : FuncId) (args : List AV) (H : Heap) (key : Nat) : MemT → Option (AV × Heap)
  | .nil => none
  | .one _ r => findTF f args H key r
  | .oneF k r => cond (Nat.beq k.f f && (eqLs (eqD 6) k.args.reverse args.reverse && eqHp k.H H)) (some (k.v, k.H')) (findTF f args H key r)
  | .node n l r => cond (Nat.ble key n) (findTF f args H key l) (findTF f args H key r)
def findF (f : FuncId) (args : List AV) (H : Heap) (L : MemT) : Option (AV × Heap) := findTF f args H (hkeyL args f) L
def findM (f : FuncId) (args : List AV) (L : MemT) : Option AV := findT f args (hkeyL args f) L
def callFn (T : FuncId → Option IFn) (m : Nat) (L : MemT) : Nat → Cb
  | 0 => fun _ _ _ => none
  | n + 1 => fun c args H => match c with
    | .fn f => match findF f args H L with
      | some q => some q
      | none => callBody T m (callFn T m L n) f args H
    | .pu f => match findM f args L with
      | some t => some (t, noH)
      | none => pureR (callBody T m (callFn T m L n) f args noH)
    | .yl id => callRound T m (callFn T m L n) id args H
    | .df f md => callDef T m (callFn T m L n) f md args H
end Go.V
/- Data as it is meant: without places in memory; expressions, trees of what a function does with data, and what they mean. -/
set_option linter.unusedVariables false
set_option linter.unusedSimpArgs false
namespace Go.Q
open Go.V

/-- Data. -/
inductive D where
  | int (k : IntKind) (n : Int)
  | bool (b : Bool)
  | str (s : ByteArray)
  | node (cs : List D)
  | list (xs : List (List D))
  | nilP
  | nilF
  | fn (f : FuncId) (first caps : List D)
  deriving Inhabited
def D.unit : D := .node []
def D.cells : D → List D
  | .node cs => cs
  | d => [d]
/-- Expressions: a variable, a constant, a cell, a list of cells. -/
inductive E where
  | v (n : Nat)
  | c (d : D)
  | cell (x : E) (j : Nat)
  | node (xs : List E)
  | fn (f : FuncId) (first caps : List E)
  deriving Inhabited
mutual
def E.den (ρ : List D) : E → D
  | .v n => ρ.getD n D.unit
  | .c d => d
  | .cell x j => (x.den ρ).cells.getD j D.unit
  | .node xs => .node (denL ρ xs)
  | .fn f a b => .fn f (denL ρ a) (denL ρ b)
def denL (ρ : List D) : List E → List D
  | [] => []
  | x :: xs => x.den ρ :: denL ρ xs
end

/-! What is reckoned -/
inductive Prim where
  | bin (op : BinOp)
  | un (op : UnOp)
  | conv (k : IntKind)
  | mx (max : Bool)
  | eqv (neg : Bool) (ks : List Bool)
  | len
  | idx (sz : Nat)
  | elem (j : Nat) (n : Option Nat)
  | set (j : Nat)
  | mkS (sz bytes : Nat) (zero : List D)
  | listOf (sz n : Nat) (zero : List D) (at_ : List Nat)
  | app (sz bytes : Nat)
  | sl (sz : Nat) (lo hi : Bool)
  | isK (n : Nat)
  | isKd (k : IntKind) (n : Nat)
  | appZ (sz bytes : Nat) (zero : List D)
  | clr (sz : Nat) (zero : List D)
  deriving Inhabited
def binD (op : BinOp) : D → D → Option D
  | .int k a, .int k' b =>
    match op with
    | .shl => if 0 ≤ b then some (.int k (k.wrap (a * 2 ^ min b.toNat k.bits))) else none
    | .shr => if 0 ≤ b then some (.int k (a.fdiv (2 ^ min b.toNat k.bits))) else none
    | _ => if k = k' then
        match op with
        | .add => some (.int k (k.wrap (a + b)))
        | .sub => some (.int k (k.wrap (a - b)))
        | .mul => some (.int k (k.wrap (a * b)))
        | .quo => if b = 0 then none else some (.int k (k.wrap (a.tdiv b)))
        | .rem => if b = 0 then none else some (.int k (a.tmod b))
        | .eql => some (.bool (a == b))
        | .neq => some (.bool (a != b))
        | .lss => some (.bool (decide (a < b)))
        | .leq => some (.bool (decide (a ≤ b)))
        | .gtr => some (.bool (decide (a > b)))
        | .geq => some (.bool (decide (a ≥ b)))
        | _ => none
      else none
  | _, _ => none
def unD (op : UnOp) : D → Option D
  | .bool b => match op with
    | .not => some (.bool !b)
    | _ => none
  | .int k n => match op with
    | .neg => some (.int k (k.wrap (0 - n)))
    | _ => none
  | _ => none
def mxD (max : Bool) : D → D → Option D
  | .int k x, .int _ y => some (.int k (if max then (if y > x then y else x) else (if y < x then y else x)))
  | _, _ => none
def mxLD (max : Bool) : D → List D → Option D
  | x, [] => some x
  | x, y :: ys => (mxD max x y).bind fun z => mxLD max z ys
def eqD1 (k : Bool) : D → D → Option Bool
  | .int i a, .int i' b => if k = false ∧ i = i' then some (a == b) else none
  | .bool a, .bool b => if k = true then some (a == b) else none
  | _, _ => none
def eqDL : List Bool → List D → List D → Option Bool
  | [], [], [] => some true
  | k :: ks, a :: as, b :: bs => match eqD1 k a b with
    | some true => eqDL ks as bs
    | some false => some false
    | none => none
  | _, _, _ => none
def D.idx : D → Nat → Option Nat
  | .int _ i, n => if 0 ≤ i ∧ i < n then some i.toNat else none
  | _, _ => none
def D.upto : D → Nat → Option Nat
  | .int _ i, n => if 0 ≤ i ∧ i ≤ n then some i.toNat else none
  | _, _ => none
def partD (n : Option Nat) (x : List D) (j : Nat) : Option D :=
  match n with
  | none => x[j]?
  | some n => if j + n ≤ x.length then some (.node ((x.drop j).take n)) else none
def putD (x : List D) (j : Nat) (cs : List D) : Option (List D) := if j + cs.length ≤ x.length then some (x.take j ++ cs ++ x.drop (j + cs.length)) else none
def fillD (sz : Nat) : List Nat → List D → List (List D) → Option (List (List D))
  | [], [], xs => some xs
  | i :: is, cs, xs => if sz ≤ cs.length ∧ i < xs.length then fillD sz is (cs.drop sz) (xs.set i (cs.take sz)) else none
  | _, _, _ => none
def D.den1 : Prim → List D → Option D
  | .bin op, [x, y] => binD op x y
  | .un op, [x] => unD op x
  | .conv k, [.int _ n] => some (.int k (k.wrap n))
  | .mx max, x :: xs => mxLD max x xs
  | .eqv neg ks, xs => (eqDL ks (xs.take ks.length) (xs.drop ks.length)).map fun b => .bool (if neg then !b else b)
  | .len, [.list xs] => some (.int .i64 xs.length)
  | .idx sz, [.list xs, i] => (i.idx xs.length).bind fun i => (xs[i]?).bind fun x => if x.length = sz then some .unit else none
  | .elem j n, [.list xs, i] => (i.idx xs.length).bind fun i => (xs[i]?).bind fun x => partD n x j
  | .set j, .list xs :: i :: cs => (i.idx xs.length).bind fun i => (xs[i]?).bind fun x => (putD x j cs).map fun x' => .list (xs.set i x')
  | .mkS sz bytes zero, [.int _ l, .int _ c] => if 0 ≤ l ∧ l ≤ c ∧ (c + 1) * (bytes + 1) ≤ 1099511627776 ∧ zero.length = sz then some (.list (List.replicate l.toNat zero)) else none
  | .listOf sz n zero is, cs => if n * sz ≤ 16777216 ∧ zero.length = sz then (fillD sz is cs (List.replicate n zero)).map .list else none
  | .app sz bytes, [.list xs, .list ys] => if (ys.isEmpty = true ∨ (xs.length + ys.length + 1) * (bytes + 1) ≤ 1099511627776) ∧ ys.all (fun y => y.length == sz) = true then some (.list (xs ++ ys)) else none
  | .sl sz false false, [.list xs] => if xs.all (fun y => y.length == sz) = true then some (.list xs) else none
  | .sl sz false true, [.list xs, hi] => if xs.all (fun y => y.length == sz) = true then (hi.upto xs.length).map fun h => .list (xs.take h) else none
  | .sl sz true false, [.list xs, lo] => if xs.all (fun y => y.length == sz) = true then (lo.upto xs.length).map fun l => .list (xs.drop l) else none
  | .sl sz true true, [.list xs, lo, hi] => if xs.all (fun y => y.length == sz) = true then (hi.upto xs.length).bind fun h => (lo.upto h).map fun l => .list ((xs.take h).drop l) else none
  | .appZ sz bytes zero, [.int _ n] => if 0 ≤ n ∧ (n + 1) * (bytes + 1) ≤ 1099511627776 ∧ zero.length = sz then some (.list (List.replicate n.toNat zero)) else none
  | .isK n, [.int _ i] => some (.bool (i == n))
  | .isKd k n, [.int k' i] => if k = k' then some (.bool (i == n)) else none
  | .clr sz zero, [.list xs, i] => if zero.length = sz then (i.upto xs.length).map fun l => .list (xs.take l ++ List.replicate (xs.length - l) zero) else none
  | _, _ => none

/-! Trees: what is done, up to the leaves; a leaf has a number, and all that is known there by then. -/
inductive T where
  | fail
  | leaf (j : Nat)
  | op (p : Prim) (as : List E) (k : T)
  | call (f : FuncId) (as : List E) (k : T)
  | callD (g : E) (as : List E) (k : T)
  | flat (x : E) (k : T)
  | shal (n : Nat) (x : E) (k : T)
  | ite (c : E) (a b : T)
  | blk (body : T) (outs : List (List E × Nat)) (ks : List T)
  | loop (init : List E) (body : T) (outs : List (List E × Option Nat)) (ks : List T)
  deriving Inhabited
abbrev Res := Option (Nat × List D)
def iterD (f : List D → Option (Option Nat × List D)) : Nat → List D → Option (Nat × List D)
  | 0, _ => none
  | n + 1, vals => match f vals with
    | some (none, vals') => iterD f n vals'
    | some (some t, vals') => some (t, vals')
    | none => none
/-- No lists in it. -/
def D.flat0 : D → Bool
  | .list _ | .node _ => false
  | .fn _ _ _ => false
  | _ => true
def D.flat : D → Bool
  | .node cs => cs.all D.flat0
  | d => d.flat0
/-- No deeper than that. -/
def D.shal0 (n : Nat) (rec : D → Bool) : D → Bool
  | .list xs => decide (0 < n) && xs.all fun x => x.all rec
  | .node _ => false
  | _ => true
def D.shal1 : Nat → D → Bool
  | 0 => D.shal0 0 fun _ => false
  | n + 1 => D.shal0 (n + 1) (D.shal1 n)
def D.shal (n : Nat) : D → Bool
  | .node cs => cs.all (D.shal1 n)
  | d => d.shal1 n
def outOf {α : Type} (outs : List (List E × α)) : Res → Option (α × List D)
  | some (j, ρ) => (outs[j]?).map fun p => (p.2, denL ρ p.1)
  | none => none
mutual
def T.den (m : Nat) (Fs : FuncId → List D → Option D) (ρ : List D) : T → Res
  | .fail => none
  | .leaf j => some (j, ρ)
  | .op p as k => match D.den1 p (denL ρ as) with
    | some d => k.den m Fs (ρ ++ [d])
    | none => none
  | .call f as k => match Fs f (denL ρ as) with
    | some d => k.den m Fs (ρ ++ [d])
    | none => none
  | .callD g as k => match g.den ρ with
    | .fn f a b => match Fs f (a ++ denL ρ as ++ b) with
      | some d => k.den m Fs (ρ ++ [d])
      | none => none
    | _ => none
  | .flat x k => if (x.den ρ).flat then k.den m Fs ρ else none
  | .shal n x k => if (x.den ρ).shal n then k.den m Fs ρ else none
  | .ite c a b => match c.den ρ with
    | .bool b' => if b' then a.den m Fs ρ else b.den m Fs ρ
    | _ => none
  | .blk body outs ks => match outOf outs (body.den m Fs ρ) with
    | some (t, vals) => denK m Fs (ρ ++ vals) ks t
    | none => none
  | .loop init body outs ks => match iterD (fun vals => outOf outs (body.den m Fs (ρ ++ vals))) m (denL ρ init) with
    | some (t, vals) => denK m Fs (ρ ++ vals) ks t
    | none => none
def denK (m : Nat) (Fs : FuncId → List D → Option D) (ρ : List D) : List T → Nat → Res
  | [], _ => none
  | k :: _, 0 => k.den m Fs ρ
  | _ :: ks, t + 1 => denK m Fs ρ ks t
end
/-- What results are like: one cell of data; a list that nobody else has; a map that is known; cells; several. -/
inductive RS where
  | e
  | own (sz : Nat)
  | km (ks vs : List AV)
  | node (cs : List RS)
  | tup (vs : List RS)
  deriving Inhabited
/-- A function: which of its arguments fill several cells; its tree; what it returns at each leaf. -/
structure Fn where
  ps : List (Option Nat)
  tree : T
  outs : List E
  rs : RS
  deriving Inhabited
def fits : List (Option Nat) → List D → Bool
  | [], [] => true
  | none :: ps, d :: ds => (match d with | .node _ => false | _ => true) && fits ps ds
  | some n :: ps, .node cs :: ds => (cs.length == n && cs.all (fun d => match d with | .node _ => false | _ => true)) && fits ps ds
  | _, _ => false
def Fn.den (m : Nat) (Fs : FuncId → List D → Option D) (F : Fn) (ds : List D) : Option D :=
  if fits F.ps ds then match F.tree.den m Fs ds with
    | some (j, ρ) => (F.outs[j]?).map (E.den ρ)
    | none => none
  else none
end Go.Q
