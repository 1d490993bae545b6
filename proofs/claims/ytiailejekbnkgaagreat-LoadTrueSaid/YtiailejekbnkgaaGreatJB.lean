/- How code is gone through once for all data: values that are known in part, their memory, and the tree that comes of it. -/
import Derived.Test.YtiailejekbnkgaaGreatJA
import Derived.Great.BuildSlice
import Derived.Laws.MakeOwn
set_option linter.unusedVariables false
set_option linter.unusedSimpArgs false
namespace Go.Q
open Go.V

/-- Values ('km': a map that is known, and written no more): one cell of data; a list that is only read (from which roots); cells; a list of one's own; places of one's own memory (a cell of a row with one element; of an element of a list), a place of a list that is only read. -/
inductive SV where
  | e (x : E)
  | fz (x : E) (rs : List Nat)
  | agg (cs : List SV)
  | tup (vs : List SV)
  | own (id : Nat)
  | nil
  | ptr (id j : Nat)
  | ptrO (id : Nat) (i : E) (j : Nat)
  | sufO (id : Nat) (lo : E)
  | ptrE (x i : E) (j : Nat) (rs : Option (List Nat))
  | fn (f : FuncId) (first caps : List SV)
  | yld (id : Nat)
  | km (ks vs : List AV)
  | unk
  deriving Inhabited
/-- Blocks: a row with one element; a list (deep: cells of it may be lists in memory of one's own that nobody writes any more; from which roots these are). -/
inductive SB where
  | cells (cs : List SV)
  | list (sz : Nat) (x : E) (deep : Option (List Nat))
  deriving Inhabited
/-- A block, with its root: blocks that may be one and the same behind one another have one root. -/
structure HB where
  rt : Nat
  b : Option SB
  deriving Inhabited
/-- What waits: the slots of a caller; of a loop over a function (how it stands, what is to be done behind it). -/
structure Fr where
  env : List SV
  st : LoopState
  pend : Ex
  deriving Inhabited
/-- A state: the slots; what waits; memory; how many variables there are. -/
structure SS where
  env : List SV
  stk : List Fr
  heap : List HB
  n : Nat
  deriving Inhabited

/-! Equality -/
mutual
def eqDb : D → D → Bool
  | .int k a, .int k' b => decide (k = k') && a == b
  | .bool a, .bool b => a == b
  | .nilP, .nilP => true
  | .nilF, .nilF => true
  | .node a, .node b => eqDLb a b
  | .list a, .list b => eqDLLb a b
  | .fn f a b, .fn g a' b' => f == g && eqDLb a a' && eqDLb b b'
  | _, _ => false
def eqDLb : List D → List D → Bool
  | [], [] => true
  | a :: as, b :: bs => eqDb a b && eqDLb as bs
  | _, _ => false
def eqDLLb : List (List D) → List (List D) → Bool
  | [], [] => true
  | a :: as, b :: bs => eqDLb a b && eqDLLb as bs
  | _, _ => false
end
mutual
def eqE : E → E → Bool
  | .v a, .v b => a == b
  | .c a, .c b => eqDb a b
  | .cell x i, .cell y j => i == j && eqE x y
  | .node a, .node b => eqEL a b
  | .fn f a b, .fn g a' b' => f == g && eqEL a a' && eqEL b b'
  | _, _ => false
def eqEL : List E → List E → Bool
  | [], [] => true
  | a :: as, b :: bs => eqE a b && eqEL as bs
  | _, _ => false
end
mutual
/-- All variables are below. -/
def E.upto (n : Nat) : E → Bool
  | .v k => decide (k < n)
  | .c _ => true
  | .cell x _ => x.upto n
  | .node xs => uptoL n xs
  | .fn _ a b => uptoL n a && uptoL n b
def uptoL (n : Nat) : List E → Bool
  | [] => true
  | x :: xs => x.upto n && uptoL n xs
end
mutual
/-- Variables from a number on stand for expressions. -/
def E.sub (n : Nat) (vals : List E) : E → E
  | .v k => if k < n then .v k else vals.getD (k - n) (.c D.unit)
  | .c d => .c d
  | .cell x j => .cell (x.sub n vals) j
  | .node xs => .node (subL n vals xs)
  | .fn f a b => .fn f (subL n vals a) (subL n vals b)
def subL (n : Nat) (vals : List E) : List E → List E
  | [] => []
  | x :: xs => x.sub n vals :: subL n vals xs
end
def mkCell (x : E) (j : Nat) : E :=
  match x with
  | .node xs => xs.getD j (.cell x j)
  | x => .cell x j

/-! Results of going through: a tree, and what there is at its leaves -/
structure R (α : Type) where
  t : T
  l : List α
mutual
def T.shift (k : Nat) : T → T
  | .fail => .fail
  | .leaf j => .leaf (j + k)
  | .op p as t => .op p as (t.shift k)
  | .call f as t => .call f as (t.shift k)
  | .callD g as t => .callD g as (t.shift k)
  | .flat x t => .flat x (t.shift k)
  | .shal n x t => .shal n x (t.shift k)
  | .ite c a b => .ite c (a.shift k) (b.shift k)
  | .blk body outs ks => .blk body outs (shiftL k ks)
  | .loop init body outs ks => .loop init body outs (shiftL k ks)
def shiftL (k : Nat) : List T → List T
  | [] => []
  | t :: ts => t.shift k :: shiftL k ts
end
mutual
def T.graft (us : List T) : T → T
  | .fail => .fail
  | .leaf j => us.getD j .fail
  | .op p as t => .op p as (t.graft us)
  | .call f as t => .call f as (t.graft us)
  | .callD g as t => .callD g as (t.graft us)
  | .flat x t => .flat x (t.graft us)
  | .shal n x t => .shal n x (t.graft us)
  | .ite c a b => .ite c (a.graft us) (b.graft us)
  | .blk body outs ks => .blk body outs (graftL us ks)
  | .loop init body outs ks => .loop init body outs (graftL us ks)
def graftL (us : List T) : List T → List T
  | [] => []
  | t :: ts => t.graft us :: graftL us ts
end
def R.ret {α : Type} (a : α) : R α := ⟨.leaf 0, [a]⟩
def bindL {α β : Type} (f : α → Option (R β)) : List α → Nat → Option (List T × List β)
  | [], _ => some ([], [])
  | a :: as, k => match f a with
    | some r => match bindL f as (k + r.l.length) with
      | some (ts, bs) => some (r.t.shift k :: ts, r.l ++ bs)
      | none => none
    | none => none
def R.bind {α β : Type} (r : R α) (f : α → Option (R β)) : Option (R β) :=
  match bindL f r.l 0 with
  | some (ts, bs) => some ⟨r.t.graft ts, bs⟩
  | none => none
def R.ite {α : Type} (c : E) (a b : R α) : R α := ⟨.ite c a.t (b.t.shift a.l.length), a.l ++ b.l⟩

/-! Values -/
/-- A constant. -/
def ofAV1 : AV → SV
  | .int k n => .e (.c (.int k n))
  | .bool b => .e (.c (.bool b))
  | .str s => .e (.c (.str s))
  | .nilS => .nil
  | .nilP => .e (.c .nilP)
  | .nilF => .e (.c .nilF)
  | _ => .unk
def ofAVf : AV → SV
  | .fn f [] [] => .fn f [] []
  | v => ofAV1 v
def ofAVg : AV → SV
  | .agg cs => if cs.all AV.one then .agg (cs.map ofAVf) else .unk
  | v => ofAVf v
def ofAV : AV → SV
  | .tup vs => .tup (vs.map ofAVg)
  | v => ofAVg v
def sget (env : List SV) (n : Nat) : SV := nthK .unk env n
theorem sget_eq (env : List SV) (n : Nat) : sget env n = env.getD n .unk := nthK_eq SV.unk env n
def sarg (env : List SV) : Arg → SV
  | .t n => sget env n
  | .c v => ofAV v
def SV.cells : SV → Option (List SV)
  | .agg cs => some cs
  | .tup _ | .unk => none
  | v => some [v]
def bget (heap : List HB) (id : Nat) : Option SB :=
  match heap[id]? with
  | some ⟨_, some b⟩ => some b
  | _ => none
def rtOf (heap : List HB) (id : Nat) : Nat := ((heap[id]?).map HB.rt).getD id
def hput (heap : List HB) (id : Nat) (b : Option SB) : List HB := heap.set id ⟨rtOf heap id, b⟩
def hnew (heap : List HB) (b : SB) : List HB := heap ++ [⟨heap.length, some b⟩]
/-- A block in place of another one. -/
def hnext (heap : List HB) (id : Nat) (b : SB) : List HB := hput heap id none ++ [⟨rtOf heap id, some b⟩]
/-- Data in a slot. -/
def dat : SV → Option E
  | .e x => some x
  | .fz x _ => some x
  | _ => none
def datL (env : List SV) : List Arg → Option (List E)
  | [] => some []
  | x :: xs => match dat (sarg env x), datL env xs with
    | some a, some b => some (a :: b)
    | _, _ => none
def datC : List SV → Option (List E)
  | [] => some []
  | v :: vs => match dat v, datC vs with
    | some a, some b => some (a :: b)
    | _, _ => none
/-- The data that a value is; the roots of the memory that it may lie in; whether it may lie in memory of one's own. -/
def toE1 (heap : List HB) : SV → Option E
  | .e x => some x
  | .fz x _ => some x
  | .own id => match bget heap id with
    | some (.list _ x _) => some x
    | _ => none
  | .nil => some (.c (.list []))
  | _ => none
def toE1L (heap : List HB) : List SV → Option (List E)
  | [] => some []
  | v :: vs => match toE1 heap v, toE1L heap vs with
    | some x, some xs => some (x :: xs)
    | _, _ => none
/-- Plain data: no list of one's own. -/
def plain1 : SV → Option E
  | .e x => some x
  | .nil => some (.c (.list []))
  | _ => none
def plainL : List SV → Option (List E)
  | [] => some []
  | v :: vs => match plain1 v, plainL vs with
    | some x, some xs => some (x :: xs)
    | _, _ => none
def plainLL : List SV → Option (List E)
  | [] => some []
  | .agg cs :: vs => match plainL cs, plainLL vs with
    | some x, some xs => some (.node x :: xs)
    | _, _ => none
  | v :: vs => match plain1 v, plainLL vs with
    | some x, some xs => some (x :: xs)
    | _, _ => none
def toE (heap : List HB) : SV → Option E
  | .agg cs => (toE1L heap cs).map .node
  | .fn f a b => match plainLL a, plainLL b with
    | some a, some b => some (.fn f a b)
    | _, _ => none
  | v => toE1 heap v
def toEL (heap : List HB) : List SV → Option (List E)
  | [] => some []
  | v :: vs => match toE heap v, toEL heap vs with
    | some x, some xs => some (x :: xs)
    | _, _ => none
def hasOwn1 : SV → Bool
  | .own _ => true
  | .fz _ _ => true
  | _ => false
def hasOwn : SV → Bool
  | .agg cs => cs.any hasOwn1
  | v => hasOwn1 v
def isDeep1 (heap : List HB) : SV → Bool
  | .own id => match bget heap id with
    | some (.list _ _ (some _)) => true
    | _ => false
  | .fz _ _ => true
  | _ => false
def isDeep (heap : List HB) : SV → Bool
  | .agg cs => cs.any (isDeep1 heap)
  | v => isDeep1 heap v
def rts1 (heap : List HB) : SV → List Nat
  | .own id => rtOf heap id :: (match bget heap id with
    | some (.list _ _ (some rs)) => rs
    | _ => [])
  | .fz _ rs => rs
  | _ => []
def rtsL (heap : List HB) : List SV → List Nat
  | [] => []
  | v :: vs => rts1 heap v ++ rtsL heap vs
def rtsV (heap : List HB) : SV → List Nat
  | .agg cs => rtsL heap cs
  | v => rts1 heap v
def rtsVL (heap : List HB) : List SV → List Nat
  | [] => []
  | v :: vs => rtsV heap v ++ rtsVL heap vs
/-- A result, as it is taken over. -/
def fromR1 (x : E) (heap : List HB) : RS → SV × List HB
  | .own sz => (.own heap.length, hnew heap (.list sz x none))
  | .km ks vs => (.km ks vs, heap)
  | _ => (.e x, heap)
def fromRL (x : E) : Nat → List RS → List HB → List SV × List HB
  | _, [], heap => ([], heap)
  | j, r :: rs, heap =>
    let p := fromR1 (mkCell x j) heap r
    let q := fromRL x (j + 1) rs p.2
    (p.1 :: q.1, q.2)
def fromR2 (x : E) (heap : List HB) : RS → SV × List HB
  | .node rs => let p := fromRL x 0 rs heap; (.agg p.1, p.2)
  | r => fromR1 x heap r
def fromRM (x : E) : Nat → List RS → List HB → List SV × List HB
  | _, [], heap => ([], heap)
  | j, r :: rs, heap =>
    let p := fromR2 (mkCell x j) heap r
    let q := fromRM x (j + 1) rs p.2
    (p.1 :: q.1, q.2)
def fromR (x : E) (heap : List HB) : RS → SV × List HB
  | .tup rs => let p := fromRM x 0 rs heap; (.tup p.1, p.2)
  | r => fromR2 x heap r
/-- The one-cell parts of a result that are no list of its own. -/
def flats1 (x : E) : RS → List E
  | .own _ => []
  | .e => [x]
  | .km _ _ => [.c (.list [])]
  | _ => []
def flatsL (x : E) : Nat → List RS → List E
  | _, [] => []
  | j, r :: rs => flats1 (mkCell x j) r ++ flatsL x (j + 1) rs
def flats2 (x : E) : RS → List E
  | .node rs => flatsL x 0 rs
  | r => flats1 x r
def flatsM (x : E) : Nat → List RS → List E
  | _, [] => []
  | j, r :: rs => flats2 (mkCell x j) r ++ flatsM x (j + 1) rs
def flatsR (x : E) : RS → List E
  | .tup rs => flatsM x 0 rs
  | r => flats2 x r
def addFlat : List E → T → T
  | [], t => t
  | x :: xs, t => .flat x (addFlat xs t)
/-- The lists of a result that are nobody else's. -/
def owns1 (x : E) : RS → List E
  | .own _ => [x]
  | _ => []
def ownsL (x : E) : Nat → List RS → List E
  | _, [] => []
  | j, r :: rs => owns1 (mkCell x j) r ++ ownsL x (j + 1) rs
def owns2 (x : E) : RS → List E
  | .node rs => ownsL x 0 rs
  | r => owns1 x r
def ownsM (x : E) : Nat → List RS → List E
  | _, [] => []
  | j, r :: rs => owns2 (mkCell x j) r ++ ownsM x (j + 1) rs
def ownsR (x : E) : RS → List E
  | .tup rs => ownsM x 0 rs
  | r => owns2 x r
def addShal (n : Nat) : List E → T → T
  | [], t => t
  | x :: xs, t => .shal n x (addShal n xs t)

/-! One operation -/
/-- What an operation reckons first. -/
inductive Em where
  | none
  | prim (p : Prim) (as : List E)
  | call (f : FuncId) (as : List E) (sh pre fl so : List E)
  | callD (g : E) (as : List E) (sh pre fl so : List E)
structure Ef where
  em : Em
  v : SV
  rd : List Nat
  wr : List Nat
  heap : List HB
def constE : E → Option D
  | .c d => some d
  | _ => none
def constL : List E → Option (List D)
  | [] => some []
  | x :: xs => match constE x, constL xs with
    | some d, some ds => some (d :: ds)
    | _, _ => none
/-- A prim, reckoned at once if all is constant. -/
def emP (p : Prim) (as : List E) (n : Nat) : Em × E :=
  match (match constL as with
    | some ds => D.den1 p ds
    | none => none) with
  | some d => (.none, .c d)
  | none => (.prim p as, .v n)
def plainE (S : SS) (v : SV) : Ef := ⟨.none, v, [], [], S.heap⟩
def pure1 (S : SS) (p : Prim) (as : List E) : Ef :=
  let q := emP p as S.n
  ⟨q.1, .e q.2, [], [], S.heap⟩
def subs {α : Type} (cs : List α) (off n : Nat) : Option (List α) := if off + n ≤ cs.length then some ((cs.drop off).take n) else none
def partS (n : Option Nat) (cs : List SV) (j : Nat) : Option SV :=
  match n with
  | none => cs[j]?
  | some n => (subs cs j n).map .agg
def putS (cs : List SV) (j : Nat) (xs : List SV) : Option (List SV) := if j + xs.length ≤ cs.length then some (cs.take j ++ xs ++ cs.drop (j + xs.length)) else none
def fillV (env : List SV) : List (Nat × Nat × Arg) → List SV → Option (List SV)
  | [], cs => some cs
  | (off, size, x) :: ps, cs => match (sarg env x).cells with
    | some xs => if xs.length = size then (putS cs off xs).bind (fillV env ps) else none
    | none => none
def constIx : SV → Option Nat
  | .e (.c (.int _ i)) => if 0 ≤ i then some i.toNat else none
  | _ => none
/-- What is put into an element: lists of one's own are written no more from then on. -/
structure Put where
  es : List E
  rs : Option (List Nat)
  fz : List Nat
def put1 (heap : List HB) : SV → Option Put
  | .e x => some ⟨[x], none, []⟩
  | .nil => some ⟨[.c (.list [])], none, []⟩
  | .fz x rs => some ⟨[x], some rs, []⟩
  | .own id => match bget heap id with
    | some (.list _ x none) => some ⟨[x], some [rtOf heap id], [id]⟩
    | some (.list _ x (some rs)) => some ⟨[x], some (rtOf heap id :: rs), [id]⟩
    | _ => none
  | _ => none
def addR : Option (List Nat) → Option (List Nat) → Option (List Nat)
  | none, b => b
  | a, none => a
  | some a, some b => some (a ++ b)
def putL (heap : List HB) : List SV → Option Put
  | [] => some ⟨[], none, []⟩
  | v :: vs => match put1 heap v, putL heap vs with
    | some p, some q => some ⟨p.es ++ q.es, addR p.rs q.rs, p.fz ++ q.fz⟩
    | _, _ => none
def freeze : List HB → List Nat → List HB
  | heap, [] => heap
  | heap, id :: ids => freeze (hput heap id none) ids
def partsE (env : List SV) (heap : List HB) (sz : Nat) : List (Nat × Arg) → Option (List Nat × Put)
  | [] => some ([], ⟨[], none, []⟩)
  | (i, x) :: ps => match (sarg env x).cells.bind (putL heap), partsE env heap sz ps with
    | some p, some (is, q) => if p.es.length = sz then some (i :: is, ⟨p.es ++ q.es, addR p.rs q.rs, p.fz ++ q.fz⟩) else none
    | _, _ => none
/-- What an element's place gives. -/
def elem1 (rs : Option (List Nat)) (x : E) : SV :=
  match rs with
  | none => .e x
  | some rs => .fz x rs
def elemV (rs : Option (List Nat)) (x : E) : Option Nat → SV
  | none => elem1 rs x
  | some n => .agg ((List.range n).map fun j => elem1 rs (mkCell x j))
def optS (env : List SV) : Option Arg → Option (List E)
  | none => some []
  | some x => (dat (sarg env x)).map fun y => [y]
def zeroD (zero : List AV) : List D := zero.map fun v => match ofAV1 v with
  | .e (.c d) => d
  | .nil => .list []
  | _ => .unit
def okZero (zero : List AV) : Bool := zero.all fun v => match ofAV1 v with
  | .e (.c _) => true
  | .nil => true
  | _ => false
/-- A list, made anew. -/
def mkList (S : SS) (sz : Nat) (p : Prim) (as : List E) (heap : List HB) (deep : Option (List Nat)) (rd : List Nat) : Ef :=
  let q := emP p as S.n
  ⟨q.1, .own heap.length, rd, [heap.length], hnew heap (.list sz q.2 deep)⟩
/-- A list in place of another one. -/
def nextList (S : SS) (id sz : Nat) (p : Prim) (as : List E) (deep : Option (List Nat)) (rd : List Nat) : Ef :=
  let q := emP p as S.n
  let r := rtOf S.heap id
  ⟨q.1, .own S.heap.length, r :: rd, [r], hnext S.heap id (.list sz q.2 deep)⟩
def deepOf (heap : List HB) : SV → Option (List Nat)
  | .own id => match bget heap id with
    | some (.list _ _ dp) => dp
    | _ => none
  | .fz _ rs => some rs
  | _ => none
def appS (S : SS) (sz bytes : Nat) (x : SV) (cy : E) (dy : Option (List Nat)) (ry : List Nat) : Option Ef :=
  match x with
  | .nil => some (mkList S sz (.app sz bytes) [.c (.list []), cy] S.heap dy ry)
  | .own id => match bget S.heap id with
    | some (.list s cx dx) => if s = sz then some (nextList S id s (.app sz bytes) [cx, cy] (addR dx dy) ry) else none
    | _ => none
  | _ => none
def noDup : List Nat → Bool
  | [] => true
  | i :: is => !is.contains i && noDup is
def doOp (S : SS) : PO → Option Ef
  | .mv x => some (plainE S (sarg S.env x))
  | .pick c a b => match sarg S.env c with
    | .e (.c (.bool true)) => some (plainE S (sarg S.env a))
    | .e (.c (.bool false)) => some (plainE S (sarg S.env b))
    | _ => none
  | .new cells => if cells.all AV.one then some ⟨.none, .ptr S.heap.length 0, [], [S.heap.length], hnew S.heap (.cells (cells.map ofAV1))⟩ else none
  | .box x => (sarg S.env x).cells.map fun cs => ⟨.none, .ptr S.heap.length 0, [], [S.heap.length], hnew S.heap (.cells cs)⟩
  | .build zero parts => if zero.all AV.one then (fillV S.env parts (zero.map ofAV1)).map fun cs => plainE S (.agg cs) else none
  | .buildS sz n zero parts => match partsE S.env S.heap sz parts with
    | some (is, p) => if okZero zero && noDup p.fz then some (mkList S sz (.listOf sz n (zeroD zero) is) p.es (freeze S.heap p.fz) p.rs []) else none
    | none => none
  | .load n x => match sarg S.env x with
    | .ptr id j => match bget S.heap id with
      | some (.cells cs) => (partS n cs j).map fun v => ⟨.none, v, [rtOf S.heap id], [], S.heap⟩
      | _ => none
    | .ptrO id i j => match bget S.heap id with
      | some (.list _ x dp) => let q := emP (.elem j n) [x, i] S.n; some ⟨q.1, elemV dp q.2 n, [rtOf S.heap id], [], S.heap⟩
      | _ => none
    | .ptrE x i j rs => let q := emP (.elem j n) [x, i] S.n; some ⟨q.1, elemV rs q.2 n, rs.getD [], [], S.heap⟩
    | _ => none
  | .store n x y => match sarg S.env x, (sarg S.env y).cells with
    | .ptr id j, some ys => match bget S.heap id with
      | some (.cells cs) => if ys.length = n then (putS cs j ys).map fun cs' => ⟨.none, .unk, [rtOf S.heap id], [rtOf S.heap id], hput S.heap id (some (.cells cs'))⟩ else none
      | _ => none
    | .ptrO id i j, some ys => match bget S.heap id, putL S.heap ys with
      | some (.list sz x dp), some p => if p.es.length = n ∧ noDup p.fz = true ∧ p.fz.contains id = false then let q := emP (.set j) (x :: i :: p.es) S.n; some ⟨q.1, .unk, [rtOf S.heap id], [rtOf S.heap id], hput (freeze S.heap p.fz) id (some (.list sz q.2 (addR dp p.rs)))⟩ else none
      | _, _ => none
    | _, _ => none
  | .fieldA off x => match sarg S.env x with
    | .ptr id j => some (plainE S (.ptr id (j + off)))
    | .ptrO id i j => some (plainE S (.ptrO id i (j + off)))
    | .ptrE x i j rs => some (plainE S (.ptrE x i (j + off) rs))
    | _ => none
  | .indexS sz x i => match sarg S.env x, dat (sarg S.env i) with
    | .own id, some i => match bget S.heap id with
      | some (.list s y _) => if s = sz then let q := emP (.idx sz) [y, i] S.n; some ⟨q.1, .ptrO id i 0, [rtOf S.heap id], [], S.heap⟩ else none
      | _ => none
    | .e y, some i => let q := emP (.idx sz) [y, i] S.n; some ⟨q.1, .ptrE y i 0 none, [], [], S.heap⟩
    | .fz y rs, some i => let q := emP (.idx sz) [y, i] S.n; some ⟨q.1, .ptrE y i 0 (some rs), rs, [], S.heap⟩
    | _, _ => none
  | .indexA len sz x i => match sarg S.env x, constIx (sarg S.env i) with
    | .ptr id j, some i => if i < len then some (plainE S (.ptr id (j + i * sz))) else none
    | .ptrO id i' j, some i => if i < len then some (plainE S (.ptrO id i' (j + i * sz))) else none
    | .ptrE x i' j rs, some i => if i < len then some (plainE S (.ptrE x i' (j + i * sz) rs)) else none
    | _, _ => none
  | .field n off x => match sarg S.env x with
    | .agg cs => (partS n cs off).map (plainE S)
    | _ => none
  | .indexV len n sz x i => match sarg S.env x, constIx (sarg S.env i) with
    | .agg cs, some i => if i < len then (partS n cs (i * sz)).map (plainE S) else none
    | _, _ => none
  | .bin op x y => match dat (sarg S.env x), dat (sarg S.env y) with
    | some a, some b => some (pure1 S (.bin op) [a, b])
    | _, _ => none
  | .eqv neg true ks x y => match sarg S.env x, sarg S.env y with
    | .agg cs, .agg ds => match datC cs, datC ds with
      | some a, some b => if a.length = ks.length then some (pure1 S (.eqv neg ks) (a ++ b)) else none
      | _, _ => none
    | _, _ => none
  | .eqv neg false ks x y => match dat (sarg S.env x), dat (sarg S.env y) with
    | some a, some b => if ks.length = 1 then some (pure1 S (.eqv neg ks) [a, b]) else none
    | _, _ => none
  | .un op x => (dat (sarg S.env x)).map fun a => pure1 S (.un op) [a]
  | .conv k x => (dat (sarg S.env x)).map fun a => pure1 S (.conv k) [a]
  | .mkS sz bytes zero l c => match dat (sarg S.env l), dat (sarg S.env c) with
    | some l, some c => if okZero zero then some (mkList S sz (.mkS sz bytes (zeroD zero)) [l, c] S.heap none []) else none
    | _, _ => none
  | .sl sz x lo hi => match optS S.env lo, optS S.env hi with
    | some l, some h => match sarg S.env x with
      | .nil => match l ++ h with
        | [] => some (plainE S .nil)
        | [.c (.int _ 0)] => some (plainE S .nil)
        | _ => none
      | .e y => some (pure1 S (.sl sz (!l.isEmpty) (!h.isEmpty)) (y :: (l ++ h)))
      | .own id => match bget S.heap id with
        | some (.list s y dp) => if s = sz ∧ l.isEmpty = true then some (nextList S id s (.sl sz false (!h.isEmpty)) (y :: h) dp []) else match l, h with
          | [lo], [] => if s = sz then let q := emP (.sl sz true false) [y, lo] S.n; some ⟨q.1, .sufO id lo, [rtOf S.heap id], [], S.heap⟩ else none
          | _, _ => none
        | _ => none
      | _ => none
    | _, _ => none
  | .sl3 sz x none hi mx => match sarg S.env x, sarg S.env hi, sarg S.env mx with
    | .e y, .e (.c (.int _ 0)), .e (.c (.int _ 0)) => some (mkList S sz (.sl sz false true) [y, .c (.int .i64 0)] S.heap none [])
    | _, _, _ => none
  | .clr sz zero x => match sarg S.env x with
    | .sufO id lo => match bget S.heap id with
      | some (.list s y dp) => if s = sz ∧ okZero zero = true then let q := emP (.clr sz (zeroD zero)) [y, lo] S.n; some ⟨q.1, .unk, [rtOf S.heap id], [rtOf S.heap id], hput S.heap id (some (.list s q.2 dp))⟩ else none
      | _ => none
    | _ => none
  | .ext x i => match sarg S.env x with
    | .tup vs => (vs[i]?).map (plainE S)
    | _ => none
  | .mkF f first caps => some (plainE S (.fn f (first.map (sarg S.env)) (caps.map (sarg S.env))))
  | .lenS x => match sarg S.env x with
    | .nil => some (plainE S (.e (.c (.int .i64 0))))
    | v => (toE1 S.heap v).map fun y => { pure1 S .len [y] with rd := rts1 S.heap v }
  | .lenC n => some (plainE S (.e (.c (.int .i64 n))))
  | .app sz bytes x y => match sarg S.env y with
    | .nil => match sarg S.env x with
      | .nil => some (plainE S .nil)
      | .own id => some (plainE S (.own id))
      | _ => none
    | .e cy => appS S sz bytes (sarg S.env x) cy none []
    | .own id' => match bget S.heap id' with
      | some (.list s cy dy) => if s = sz then appS S sz bytes (sarg S.env x) cy dy [rtOf S.heap id'] else none
      | _ => none
    | .fz cy rs => appS S sz bytes (sarg S.env x) cy (some rs) rs
    | _ => none
  | .appZ sz bytes zero x n => match sarg S.env x, dat (sarg S.env n) with
    | .nil, some n => if okZero zero then some (mkList S sz (.appZ sz bytes (zeroD zero)) [n] S.heap none []) else none
    | _, _ => none
  | .capS x => match sarg S.env x with
    | .nil => some (plainE S (.e (.c (.int .i64 0))))
    | _ => none
  | .mx max xs => if 2 ≤ xs.length then (datL S.env xs).map fun es => pure1 S (.mx max) es else none
  | .isNil neg x => match sarg S.env x with
    | .nil => some (plainE S (.e (.c (.bool !neg))))
    | _ => none
  | .nck x => match sarg S.env x with
    | .ptr id j => some (plainE S (.ptr id j))
    | .ptrO id i j => some (plainE S (.ptrO id i j))
    | .ptrE x i j rs => some (plainE S (.ptrE x i j rs))
    | _ => none
  | .mkI _ _ => some (plainE S .unk)
  | _ => none
abbrev Tab := FuncId → Option IFn
abbrev Shp := FuncId → Option RS
def setS (env : List SV) (dst : Option Nat) (v : SV) : List SV :=
  match dst with
  | some d => setK env d v
  | none => env
theorem setS_eq (env : List SV) (dst : Option Nat) (v : SV) : setS env dst v = match dst with | some d => env.set d v | none => env := by cases dst <;> simp [setS, setK_eq]
def emT (em : Em) (t : T) : T :=
  match em with
  | .none => t
  | .prim p as => .op p as t
  | .call f as sh pre fl so => addShal 4 sh (addFlat pre (.call f as (addFlat fl (addShal 1 so t))))
  | .callD g as sh pre fl so => addShal 4 sh (addFlat pre (.callD g as (addFlat fl (addShal 1 so t))))
def emN (em : Em) (n : Nat) : Nat :=
  match em with
  | .none => n
  | _ => n + 1
def shalOf (heap : List HB) : List SV → List E → List E
  | v :: vs, x :: xs => if isDeep heap v then x :: shalOf heap vs xs else shalOf heap vs xs
  | _, _ => []
/-- What a function keeps must be flat. -/
def preOf : List E → List E
  | .fn _ a b :: xs => a ++ b ++ preOf xs
  | _ :: xs => preOf xs
  | [] => []
def callPu (S : SS) (f : FuncId) (rs : RS) (args : List SV) : Option Ef :=
  match toEL S.heap args with
  | some es =>
    let x := E.v S.n
    let p := fromR x S.heap rs
    some ⟨.call f es (shalOf S.heap args es) (preOf es) (if args.any hasOwn then flatsR x rs else []) (if args.any hasOwn then ownsR x rs else []), p.1, rtsVL S.heap args, (List.range p.2.length).drop S.heap.length, p.2⟩
  | none => none
def callDyn (S : SS) (g : E) (args : List SV) : Option Ef :=
  match toEL S.heap args with
  | some es => some ⟨.callD g es (shalOf S.heap args es) (preOf es) [E.node [E.v S.n]] [], .e (.v S.n), rtsVL S.heap args, [], S.heap⟩
  | none => none
/-- An index of an array that is not known: how many there are. -/
def forkOf (S : SS) : PO → Option (Nat × E)
  | .indexA len sz x i => match sarg S.env x, sarg S.env i with
    | .ptr _ _, .e (.c _) => none
    | .ptr _ _, .e y => if len ≤ 16 then some (len, y) else none
    | _, _ => none
  | .indexV len _ _ x i => match sarg S.env x, sarg S.env i with
    | .agg _, .e (.c _) => none
    | .agg _, .e y => if len ≤ 16 then some (len, y) else none
    | _, _ => none
  | _ => none
def atK (k : Nat) : PO → PO
  | .indexA len sz x _ => .indexA len sz x (.c (.int .i64 k))
  | .indexV len n sz x _ => .indexV len n sz x (.c (.int .i64 k))
  | o => o
/-- A map that is known, looked up: for each of its keys what is found; what there is for others; the key. -/
def altsOf (kd : IntKind) (zero : AV) (ok : Bool) : List (AV × AV) → Option (List (Nat × AV))
  | [] => some []
  | (.int k n, v) :: l => if k = kd ∧ 0 ≤ n then (altsOf kd zero ok l).map fun r => (n.toNat, foundA ok zero (some (0, v))) :: r else none
  | _ => none
def lookOf (S : SS) : PO → Option (IntKind × List (Nat × AV) × AV × E)
  | .look (.int kd) zero ok x i => match sarg S.env x, sarg S.env i with
    | .km (k :: ks) vs, .e y => (altsOf kd zero ok ((k :: ks).zip vs)).bind fun l => if l.isEmpty then none else some (kd, l, foundA ok zero none, y)
    | _, _ => none
  | _ => none
/-- Calls of what works on the caller's memory. -/
abbrev SCb := Cal → List SV → SS → Option (R (SV × SS))
inductive OpS where
  | ef (f : Ef)
  | ref (c : Cal) (args : List SV)
def stepOp (Tb : Tab) (Sh : Shp) (S : SS) : PO → Option OpS
  | .call f args => match Tb f with
    | some fn => if fn.byref then some (.ref (.fn f) (args.map (sarg S.env))) else (Sh f).bind fun rs => (callPu S f rs (args.map (sarg S.env))).map .ef
    | none => none
  | .callv g args => match sarg S.env g with
    | .fn f first caps => match Tb f with
      | some fn => if fn.byref then some (.ref (.fn f) (first ++ args.map (sarg S.env) ++ caps)) else (Sh f).bind fun rs => (callPu S f rs (first ++ args.map (sarg S.env) ++ caps)).map .ef
      | none => none
    | .yld id => some (.ref (.yl id) (args.map (sarg S.env)))
    | .e g => (callDyn S g (args.map (sarg S.env))).map .ef
    | _ => none
  | o => (doOp S o).map .ef

/-! What is looked at later: only to forget the rest -/
abbrev Mask := Nat
def mOf (l : List Nat) : Mask := l.foldl (fun m i => m ||| (1 <<< i)) 0
def mHas (m : Mask) (i : Nat) : Bool := m.testBit i
def mDel (m : Mask) (i : Nat) : Mask := if m.testBit i then m ^^^ (1 <<< i) else m
def mArgs (l : List Arg) : Mask := l.foldl (fun m a => match a with
  | .t n => m ||| (1 <<< n)
  | .c _ => m) 0
def mOp (o : IOp) (out : Mask) : Mask :=
  let out := match o.dst with
    | some d => mDel out d
    | none => out
  let out := out ||| mArgs o.op.args
  match o.guard with
  | some (j, _) => out ||| (1 <<< j)
  | none => out
def mOps : List IOp → Mask → Mask
  | [], out => out
  | o :: os, out => mOp o (mOps os out)
def mLook (id : Nat) : List (Nat × Mask) → Mask
  | [] => 0
  | (i, m) :: l => if i = id then m else mLook id l
def live (exits : List (Nat × Mask)) (rt : Mask) : IC → Mask → Mask
  | .skip, out => out
  | .region ops _, out => mOps ops out
  | .seq a b, out => live exits rt a (live exits rt b out)
  | .cond c a b, out => mArgs [c] ||| live exits rt a out ||| live exits rt b out
  | .block id c, out => live ((id, out) :: exits) rt c out
  | .loop c, _ => let m := live exits rt c 0; let m := live exits rt c m; m ||| live exits rt c m
  | .exit id, _ => mLook id exits
  | .ret, _ => rt
  | .scope c, out => live exits rt c out
  | .rangeF g ps a b, out => let rd := fun m => live exits rt a (live exits rt b m); let m := rd out ||| out; let m := rd m ||| m; mArgs [g] ||| m
  | .bad, _ => 0
def prune (m : Mask) : Nat → List SV → List SV
  | _, [] => []
  | i, v :: vs => (if mHas m i then v else .unk) :: prune m (i + 1) vs
def pruneS (m : Mask) (S : SS) : SS := { S with env := prune m 0 S.env }
end Go.Q
/- How code is gone through: where ways meet, loops, calls. -/
set_option linter.unusedVariables false
set_option linter.unusedSimpArgs false
namespace Go.Q
open Go.V

/-! Where ways meet: what two states have in common (a proposal) -/
structure AU where
  base : Nat
  es : List (E × E)
  ids : List (Option Nat × Option Nat)
  h1 : List HB
  h2 : List HB
def findP {α : Type} (p : α → Bool) : List α → Nat → Option Nat
  | [], _ => none
  | a :: as, i => if p a then some i else findP p as (i + 1)
def auE (u : AU) (x y : E) : AU × E :=
  if x.upto u.base && eqE x y then (u, x)
  else match findP (fun p => eqE p.1 x && eqE p.2 y) u.es 0 with
    | some i => (u, .v (u.base + i))
    | none => ({ u with es := u.es ++ [(x, y)] }, .v (u.base + u.es.length))
def auI (u : AU) (i k : Option Nat) : AU × Nat :=
  match findP (fun p => p.1 == i && p.2 == k) u.ids 0 with
  | some j => (u, j)
  | none => ({ u with ids := u.ids ++ [(i, k)] }, u.ids.length)
def eEmp : E := .c (.list [])
mutual
def auV (u : AU) : SV → SV → AU × SV
  | .e x, .e y => let p := auE u x y; (p.1, .e p.2)
  | .nil, .nil => (u, .nil)
  | .e x, .nil => let p := auE u x eEmp; (p.1, .e p.2)
  | .nil, .e y => let p := auE u eEmp y; (p.1, .e p.2)
  | .own i, .own k => if (bget u.h1 i).isSome && (bget u.h2 k).isSome then let p := auI u (some i) (some k); (p.1, .own p.2) else (u, .unk)
  | .own i, .nil => if (bget u.h1 i).isSome then let p := auI u (some i) none; (p.1, .own p.2) else (u, .unk)
  | .nil, .own k => if (bget u.h2 k).isSome then let p := auI u none (some k); (p.1, .own p.2) else (u, .unk)
  | .own i, .e y => match bget u.h1 i with
    | some (.list _ x _) => let p := auE u x y; (p.1, .fz p.2 [])
    | _ => (u, .unk)
  | .e x, .own k => match bget u.h2 k with
    | some (.list _ y _) => let p := auE u x y; (p.1, .fz p.2 [])
    | _ => (u, .unk)
  | .fz x _, b => match toE1 u.h2 b with
    | some y => let p := auE u x y; (p.1, .fz p.2 [])
    | none => (u, .unk)
  | a, .fz y _ => match toE1 u.h1 a with
    | some x => let p := auE u x y; (p.1, .fz p.2 [])
    | none => (u, .unk)
  | .agg a, .agg b => if a.length = b.length then let p := auVL u a b; (p.1, .agg p.2) else (u, .unk)
  | .tup a, .tup b => if a.length = b.length then let p := auVL u a b; (p.1, .tup p.2) else (u, .unk)
  | .ptr i j, .ptr k l => if j = l ∧ (bget u.h1 i).isSome = true ∧ (bget u.h2 k).isSome = true then let p := auI u (some i) (some k); (p.1, .ptr p.2 j) else (u, .unk)
  | .ptrO i x j, .ptrO k y l => if j = l ∧ (bget u.h1 i).isSome = true ∧ (bget u.h2 k).isSome = true then let p := auI u (some i) (some k); let q := auE p.1 x y; (q.1, .ptrO p.2 q.2 j) else (u, .unk)
  | .ptrE x i j r, .ptrE y k l r' => if j = l then let p := auE u x y; let q := auE p.1 i k; (q.1, .ptrE p.2 q.2 j (if r.isSome || r'.isSome then some [] else none)) else (u, .unk)
  | .fn f a b, .fn g c d => if f = g ∧ a.length = c.length ∧ b.length = d.length then let p := auVL u a c; let q := auVL p.1 b d; (q.1, .fn f p.2 q.2) else (u, .unk)
  | .yld i, .yld k => if i = k then (u, .yld i) else (u, .unk)
  | .km a b, .km c d => if eqLs (eqD 8) a c && eqLs (eqD 8) b d then (u, .km a b) else (u, .unk)
  | _, _ => (u, .unk)
def auVL (u : AU) : List SV → List SV → AU × List SV
  | a :: as, b :: bs => let p := auV u a b; let q := auVL p.1 as bs; (q.1, p.2 :: q.2)
  | _, _ => (u, [])
end
def auFL (u : AU) : List Fr → List Fr → AU × List Fr
  | a :: as, b :: bs => let p := auVL u a.env b.env; let q := auFL p.1 as bs; (q.1, { a with env := p.2 } :: q.2)
  | _, _ => (u, [])
def auB (u : AU) (a b : Option SB) : AU × Option SB :=
  match a, b with
  | some (.cells cs), some (.cells ds) => if cs.length = ds.length then let p := auVL u cs ds; (p.1, some (.cells p.2)) else (u, none)
  | some (.list s x d), some (.list s' y d') => if s = s' then let p := auE u x y; (p.1, some (.list s p.2 (if d.isSome || d'.isSome then some [] else none))) else (u, none)
  | _, _ => (u, none)
def oget (heap : List HB) (sz : Nat) : Option Nat → Option SB
  | some i => bget heap i
  | none => some (.list sz eEmp none)
def szOf : Option SB → Nat
  | some (.list s _ _) => s
  | _ => 0
def auH (h1 h2 : List HB) : Nat → AU → List HB → AU × List HB
  | 0, u, out => (u, out)
  | n + 1, u, out => match u.ids[out.length]? with
    | none => (u, out)
    | some (i, k) =>
      let s := max (szOf (oget h1 0 i)) (szOf (oget h2 0 k))
      let p := auB u (oget h1 s i) (oget h2 s k)
      auH h1 h2 n p.1 (out ++ [⟨out.length, p.2⟩])
def au (base : Nat) (a b : SS) : SS :=
  let p := auVL ⟨base, [], [], a.heap, b.heap⟩ a.env b.env
  let q := auFL p.1 a.stk b.stk
  let r := auH a.heap b.heap 200 q.1 []
  ⟨p.2, q.2, r.2, base + r.1.es.length⟩
def auAll (base : Nat) (a : SS) (l : List SS) : SS := l.foldl (au base) (au base a a)

/-! How a state is one of a pattern: which values the pattern's variables take, which blocks its blocks are (a proposal) -/
structure MT where
  vals : List (Nat × E)
  ids : List (Nat × Option Nat)
def mtE (n0 : Nat) (u : MT) (x y : E) : MT :=
  match x with
  | .v i => if n0 ≤ i && !(u.vals.any fun p => p.1 == i) then { u with vals := (i, y) :: u.vals } else u
  | _ => u
def mtI (u : MT) (i : Nat) (k : Option Nat) : MT := if u.ids.any fun p => p.1 == i then u else { u with ids := (i, k) :: u.ids }
mutual
def mtV (n0 : Nat) (hS : List HB) (u : MT) : SV → SV → MT
  | .fz x _, b => match toE1 hS b with
    | some y => mtE n0 u x y
    | none => u
  | .e x, .e y => mtE n0 u x y
  | .e x, .nil => mtE n0 u x eEmp
  | .own i, .own k => mtI u i (some k)
  | .own i, .nil => mtI u i none
  | .agg a, .agg b => mtVL n0 hS u a b
  | .tup a, .tup b => mtVL n0 hS u a b
  | .ptr i _, .ptr k _ => mtI u i (some k)
  | .ptrO i x _, .ptrO k y _ => mtE n0 (mtI u i (some k)) x y
  | .ptrE x i _ _, .ptrE y k _ _ => mtE n0 (mtE n0 u x y) i k
  | .fn _ a b, .fn _ c d => mtVL n0 hS (mtVL n0 hS u a c) b d
  | _, _ => u
def mtVL (n0 : Nat) (hS : List HB) (u : MT) : List SV → List SV → MT
  | a :: as, b :: bs => mtVL n0 hS (mtV n0 hS u a b) as bs
  | _, _ => u
end
def mtFL (n0 : Nat) (hS : List HB) (u : MT) : List Fr → List Fr → MT
  | a :: as, b :: bs => mtFL n0 hS (mtVL n0 hS u a.env b.env) as bs
  | _, _ => u
def assoc {α : Type} (i : Nat) : List (Nat × α) → Option α
  | [] => none
  | (j, a) :: l => if i = j then some a else assoc i l
def mtH (n0 : Nat) (hP hS : List HB) : List HB → Nat → MT → MT
  | [], _, u => u
  | b :: bs, i, u =>
    let u := match b.b, assoc i u.ids with
      | some (.cells cs), some (some k) => match bget hS k with
        | some (.cells ds) => mtVL n0 hS u cs ds
        | _ => u
      | some (.list _ x _), some (some k) => match bget hS k with
        | some (.list _ y _) => mtE n0 u x y
        | _ => u
      | some (.list _ x _), some none => mtE n0 u x eEmp
      | _, _ => u
    mtH n0 hP hS bs (i + 1) u
def matchS (n0 : Nat) (P S : SS) : List E × List (Option (Option Nat)) :=
  let u := mtVL n0 S.heap ⟨[], []⟩ P.env S.env
  let u := mtFL n0 S.heap u P.stk S.stk
  let u := mtH n0 P.heap S.heap P.heap 0 u
  ((List.range (P.n - n0)).map fun i => (assoc (n0 + i) u.vals).getD (.c D.unit), (List.range P.heap.length).map fun i => assoc i u.ids)

/-! .. and that it is so -/
abbrev Ren := List (Option (Option Nat))
/-- An expression of the pattern is one of the state. -/
def okE (n0 : Nat) (vals : List E) (x y : E) : Bool := x.upto (n0 + vals.length) && eqE (x.sub n0 vals) y
def okId (hS : List HB) (σ : Ren) (i k : Nat) : Bool := σ[i]? == some (some (some k)) && (bget hS k).isSome
mutual
def okV (n0 : Nat) (vals : List E) (hS : List HB) (σ : Ren) : SV → SV → Bool
  | .unk, _ => true
  | .fz x _, .fz y _ => okE n0 vals x y
  | .fz x _, .e y => okE n0 vals x y
  | .fz x _, .nil => okE n0 vals x eEmp
  | .fz x _, .own k => !(σ.any fun o => o == some (some k)) && (match bget hS k with
    | some (.list _ y _) => okE n0 vals x y
    | _ => false)
  | .e x, .e y => okE n0 vals x y
  | .e x, .nil => okE n0 vals x eEmp
  | .nil, .nil => true
  | .own i, .own k => okId hS σ i k
  | .own i, .nil => σ[i]? == some (some none)
  | .agg a, .agg b => okVL n0 vals hS σ a b
  | .tup a, .tup b => okVL n0 vals hS σ a b
  | .ptr i j, .ptr k l => j == l && okId hS σ i k
  | .ptrO i x j, .ptrO k y l => j == l && okId hS σ i k && okE n0 vals x y
  | .ptrE x i j r, .ptrE y k l r' => j == l && (r.isSome || r'.isNone) && okE n0 vals x y && okE n0 vals i k
  | .fn f a b, .fn g c d => f == g && okVL n0 vals hS σ a c && okVL n0 vals hS σ b d
  | .yld i, .yld k => i == k
  | .km a b, .km c d => eqLs (eqD 8) a c && eqLs (eqD 8) b d
  | _, _ => false
def okVL (n0 : Nat) (vals : List E) (hS : List HB) (σ : Ren) : List SV → List SV → Bool
  | [], [] => true
  | a :: as, b :: bs => okV n0 vals hS σ a b && okVL n0 vals hS σ as bs
  | _, _ => false
end
def exB : Ex → Ex → Bool
  | .normal, .normal => true
  | .ret, .ret => true
  | .exit a, .exit b => a == b
  | _, _ => false
def panB : Ex → Bool
  | .pan _ => true
  | _ => false
def stB : LoopState → LoopState → Bool
  | .ready, .ready => true
  | .busy, .busy => true
  | .done, .done => true
  | _, _ => false
def okF (n0 : Nat) (vals : List E) (hS : List HB) (σ : Ren) (a b : Fr) : Bool := stB a.st b.st && exB a.pend b.pend && okVL n0 vals hS σ a.env b.env
def okFL (n0 : Nat) (vals : List E) (hS : List HB) (σ : Ren) : List Fr → List Fr → Bool
  | [], [] => true
  | a :: as, b :: bs => okF n0 vals hS σ a b && okFL n0 vals hS σ as bs
  | _, _ => false
def okB (n0 : Nat) (vals : List E) (σ : Ren) (hS : List HB) : SB → Option (Option Nat) → Bool
  | .cells cs, some (some k) => match bget hS k with
    | some (.cells ds) => okVL n0 vals hS σ cs ds
    | _ => false
  | .list s x d, some (some k) => match bget hS k with
    | some (.list s' y d') => s == s' && (d.isSome || d'.isNone) && okE n0 vals x y
    | _ => false
  | .list _ x _, some none => okE n0 vals x eEmp
  | _, _ => false
def okH (n0 : Nat) (vals : List E) (σ : Ren) (hS : List HB) : List HB → Nat → Bool
  | [], _ => true
  | ⟨_, some b⟩ :: bs, i => okB n0 vals σ hS b ((σ[i]?).bind id) && okH n0 vals σ hS bs (i + 1)
  | ⟨_, none⟩ :: bs, i => okH n0 vals σ hS bs (i + 1)
def okR : List HB → Nat → Bool
  | [], _ => true
  | b :: bs, i => b.rt == i && okR bs (i + 1)
def okI : Ren → List Nat → Bool
  | [], _ => true
  | some (some k) :: σ, seen => !seen.contains k && okI σ (k :: seen)
  | _ :: σ, seen => okI σ seen
def okS (n0 : Nat) (vals : List E) (σ : Ren) (P S : SS) : Bool :=
  okVL n0 vals S.heap σ P.env S.env && okFL n0 vals S.heap σ P.stk S.stk && okH n0 vals σ S.heap P.heap 0 && okI σ [] && okR P.heap 0 && P.n == n0 + vals.length && σ.length == P.heap.length && decide (n0 ≤ S.n)
/-- The values of the pattern's variables. -/
def fit (n0 : Nat) (P S : SS) : Option (List E) :=
  let p := matchS n0 P S
  if okS n0 p.1 p.2 P S then some p.1 else none

/-! Ways meet -/
def keyF : List Fr → List Fr → Bool
  | [], [] => true
  | a :: as, b :: bs => stB a.st b.st && exB a.pend b.pend && keyF as bs
  | _, _ => false
def keyB (a b : Ex × SS) : Bool := exB a.1 b.1 && keyF a.2.stk b.2.stk
mutual
/-- Functions that differ are not made one. -/
def difV : SV → SV → Bool
  | .fn f [] [], .fn g [] [] => !(f == g)
  | .fn _ [] [], .e _ => true
  | .e _, .fn _ [] [] => true
  | .agg a, .agg b => difVL a b
  | .tup a, .tup b => difVL a b
  | _, _ => false
def difVL : List SV → List SV → Bool
  | a :: as, b :: bs => difV a b || difVL as bs
  | _, _ => false
end
def difH : List HB → List HB → Bool
  | ⟨_, some (.cells a)⟩ :: as, ⟨_, some (.cells b)⟩ :: bs => difVL a b || difH as bs
  | _ :: as, _ :: bs => difH as bs
  | _, _ => false
def keyM (a b : Ex × SS) : Bool := keyB a b && !(difVL a.2.env b.2.env || difH a.2.heap b.2.heap)
abbrev Lf := Ex × SS
def addG (a : Lf) : List (List Lf) → List (List Lf)
  | [] => [[a]]
  | [] :: gs => addG a gs
  | (b :: g) :: gs => if keyM b a then (b :: g ++ [a]) :: gs else (b :: g) :: addG a gs
def groups (l : List Lf) : List (List Lf) := l.foldl (fun gs a => addG a gs) []
def patOf (n0 : Nat) : List Lf → Option Lf
  | [] => none
  | (ex, S) :: l => some (ex, auAll n0 S (l.map (·.2)))
def pats (n0 : Nat) : List (List Lf) → List Lf
  | [] => []
  | g :: gs => match patOf n0 g with
    | some p => p :: pats n0 gs
    | none => pats n0 gs
/-- To which pattern a leaf belongs, and with which values. -/
def place (n0 : Nat) (a : Lf) : List Lf → Nat → Option (List E × Nat)
  | [], _ => none
  | p :: ps, i => if keyB p a then match fit n0 p.2 a.2 with
      | some vals => some (vals, i)
      | none => place n0 a ps (i + 1)
    else place n0 a ps (i + 1)
def placeL (n0 : Nat) (ps : List Lf) : List Lf → Option (List (List E × Nat))
  | [] => some []
  | a :: as => match place n0 a ps 0, placeL n0 ps as with
    | some p, some q => some (p :: q)
    | _, _ => none
def leaves (n : Nat) : List T := (List.range n).map .leaf
def meet (n0 : Nat) (r : R Lf) : Option (R Lf) :=
  let gs := groups r.l
  if gs.length = r.l.length then some r
  else
    let ps := pats n0 gs
    match placeL n0 ps r.l with
    | some outs => some ⟨.blk r.t outs (leaves ps.length), ps⟩
    | none => none

/-! Regions -/
inductive Gd where
  | yes
  | no
  | ask (x : E)
def wantS (env : List SV) : Option (Nat × Bool) → Option Gd
  | none => some .yes
  | some (j, want) => match sget env j with
    | .e (.c (.bool b)) => some (if b == want then .yes else .no)
    | .e (.c _) => some .no
    | .e x => some (.ask x)
    | .tup _ => some .no
    | _ => none
def setAt (S : SS) (j : Nat) (b : Bool) : SS := { S with env := S.env.set j (.e (.c (.bool b))) }
structure CE where
  pos : Nat
  ps : List Nat
  a : IC
  b : IC
  lv : Mask
  ex : List (Nat × Mask)
  rt : Mask
/-- An operation that is not gone through at all: the tree ends. -/
def isBad (Sh : Shp) (S : SS) : PO → Bool
  | .bad => true
  | .pnc _ => true
  | .call f _ => match Sh f with
    | some (.tup [.tup []]) => true
    | _ => false
  | .callv g _ => match sarg S.env g with
    | .e (.c _) => true
    | _ => false
  | _ => false
def forkR (x : E) (go : Nat → SS → Option (R SS)) (S : SS) (len : Nat) : Nat → Option (R SS)
  | 0 => some ⟨.fail, []⟩
  | k + 1 => match go (len - (k + 1)) { S with n := S.n + 1 }, forkR x go { S with n := S.n + 1 } len k with
    | some a, some b => let r := R.ite (.v S.n) a b; some ⟨.op (.isK (len - (k + 1))) [x] r.t, r.l⟩
    | _, _ => none
def lookR (kd : IntKind) (x : E) (go : AV → SS → Option (R SS)) (dflt : AV) (S : SS) : List (Nat × AV) → Option (R SS)
  | [] => go dflt S
  | (k, v) :: l => match go v { S with n := S.n + 1 }, lookR kd x go dflt { S with n := S.n + 1 } l with
    | some a, some b => let r := R.ite (.v S.n) a b; some ⟨.op (.isKd kd k) [x] r.t, r.l⟩
    | _, _ => none
abbrev SCall := List CE → Cal → List SV → SS → Option (R (SV × SS))
def undefS : SV := .tup []
def opsS (Tb : Tab) (Sh : Shp) (cb : SCall) (cx : List CE) : List IOp → Mask → SS → Option (R SS)
  | [], _, S => some (R.ret S)
  | o :: os, out, S =>
    let yes0 : PO → SS → Option (R SS) := fun op S => if isBad Sh S op then some ⟨.fail, []⟩ else match stepOp Tb Sh S op with
      | some (.ef f) => (opsS Tb Sh cb cx os out { S with env := setS S.env o.dst f.v, heap := f.heap, n := emN f.em S.n }).map fun r => ⟨emT f.em r.t, r.l⟩
      | some (.ref c args) => match cb cx c args (pruneS (mDel (mOps os out) (o.dst.getD 100000)) S) with
        | some r => r.bind fun p => opsS Tb Sh cb cx os out { p.2 with env := setS p.2.env o.dst p.1 }
        | none => none
      | none => none
    let yes : SS → Option (R SS) := fun S => match forkOf S o.op with
      | some (len, x) => forkR x (fun k => yes0 (atK k o.op)) S len len
      | none => match lookOf S o.op with
        | some (kd, l, dflt, x) => lookR kd x (fun v => yes0 (.mv (.c v))) dflt S l
        | none => yes0 o.op S
    let no : SS → Option (R SS) := fun S => opsS Tb Sh cb cx os out { S with env := setS S.env o.dst undefS }
    match wantS S.env o.guard with
    | none => none
    | some .yes => yes S
    | some .no => no S
    | some (.ask x) => match o.guard with
      | some (j, want) => match yes (setAt S j want), no (setAt S j !want) with
        | some a, some b => some (if want then R.ite x a b else R.ite x b a)
        | _, _ => none
      | none => none
/-- A call that is ordered with all that touches memory. -/
def ordC (Tb : Tab) : Cal → Bool
  | .yl _ => true
  | .fn f => ((Tb f).map IFn.dm).getD 0 == 2
  | _ => false
/-- Behind such a call, what was touched before it is not told any more. -/
def pastF (f : Foot) : Foot := if f.k == 0 then f else ⟨[], [], 2⟩
def drawS (Tb : Tab) (Sh : Shp) (cb : SCall) (cx : List CE) : List IOp → Nat → List Foot → SS → Option (R SS)
  | [], _, _, S => some (R.ret S)
  | o :: os, n, fs, S =>
    let yes0 : PO → SS → Option (R SS) := fun op S => if isBad Sh S op then some ⟨.fail, []⟩ else match stepOp Tb Sh S op with
      | some (.ef f) => if footOK ⟨f.rd, f.wr, 1⟩ o.bef n fs then (drawS Tb Sh cb cx os (n + 1) (⟨f.rd, f.wr, 1⟩ :: fs) { S with env := setS S.env o.dst f.v, heap := f.heap, n := emN f.em S.n }).map fun r => ⟨emT f.em r.t, r.l⟩ else none
      | some (.ref c args) => if ordC Tb c && footOK ⟨[], [], 2⟩ o.bef n fs then match cb cx c args S with
          | some r => r.bind fun p => drawS Tb Sh cb cx os (n + 1) (⟨[], [], 2⟩ :: fs.map pastF) { p.2 with env := setS p.2.env o.dst p.1 }
          | none => none
        else none
      | _ => none
    let yes : SS → Option (R SS) := fun S => match forkOf S o.op with
      | some (len, x) => forkR x (fun k => yes0 (atK k o.op)) S len len
      | none => match lookOf S o.op with
        | some (kd, l, dflt, x) => lookR kd x (fun v => yes0 (.mv (.c v))) dflt S l
        | none => yes0 o.op S
    let no : SS → Option (R SS) := fun S => drawS Tb Sh cb cx os (n + 1) (⟨[], [], 0⟩ :: fs) { S with env := setS S.env o.dst undefS }
    match wantS S.env o.guard with
    | none => none
    | some .yes => yes S
    | some .no => no S
    | some (.ask x) => match o.guard with
      | some (j, want) => match yes (setAt S j want), no (setAt S j !want) with
        | some a, some b => some (if want then R.ite x a b else R.ite x b a)
        | _, _ => none
      | none => none
def mapR {α β : Type} (f : α → β) (r : R α) : R β := ⟨r.t, r.l.map f⟩
/-- A loop, from a pattern on: its tree and the leaves behind it. -/
def tryLoop (n0 : Nat) (S : SS) (body : SS → Option (R Lf)) : Nat → SS → Option (R Lf)
  | 0, _ => none
  | k + 1, P => match body P with
    | none => none
    | some r =>
      let ns := (r.l.filter fun a => exB a.1 .normal).map (·.2)
      let outs := r.l.filter fun a => !exB a.1 .normal
      match fit n0 P S, ns.all (fun s => (fit n0 P s).isSome && keyF P.stk s.stk) with
      | some init, true =>
        let ps := pats n0 (groups outs)
        let place1 := fun a : Lf => if exB a.1 .normal then (fit n0 P a.2).map fun vals => (vals, none) else (place n0 a ps 0).map fun q => (q.1, some q.2)
        match r.l.mapM place1 with
        | some os => some ⟨.loop init r.t os (leaves ps.length), ps⟩
        | none => none
      | _, _ => tryLoop n0 S body k (auAll n0 S ns)
def isExit : Ex → Bool
  | .exit _ => true
  | _ => false
/-- A loop whose rounds are told by constants is gone through round by round. -/
def unroll (body : SS → Option (R Lf)) (other : SS → Option (R Lf)) : Nat → SS → Option (R Lf)
  | 0, _ => none
  | k + 1, S => match body S with
    | none => other S
    | some r => if r.l.any (fun a => isExit a.1) && r.l.any (fun a => exB a.1 .normal) then other S
      else r.bind fun a => if exB a.1 .normal then unroll body other k a.2 else some (R.ret a)
mutual
/-- Rounds of loops that are over are forgotten. -/
def cleanV (n : Nat) : SV → SV
  | .yld k => if k < n then .yld k else .unk
  | .agg cs => .agg (cleanL n cs)
  | .tup cs => .tup (cleanL n cs)
  | .fn f a b => .fn f (cleanL n a) (cleanL n b)
  | v => v
def cleanL (n : Nat) : List SV → List SV
  | [] => []
  | v :: vs => cleanV n v :: cleanL n vs
end
def cleanB (n : Nat) : HB → HB
  | ⟨r, some (.cells cs)⟩ => ⟨r, some (.cells (cleanL n cs))⟩
  | b => b
def cleanS (n : Nat) (S : SS) : SS := { env := cleanL n S.env, stk := S.stk.map fun f => { f with env := cleanL n f.env }, heap := S.heap.map (cleanB n), n := S.n }
/-- The question that a loop begins with. -/
def headC : IC → Option Arg
  | .cond c _ _ => some c
  | .seq a _ => headC a
  | _ => none
def firstC : IC → Option (List IOp × Bool × Arg)
  | .seq (.region ops d) b => (headC b).map fun c => (ops, d, c)
  | .seq a _ => firstC a
  | _ => none
def isCB (v : SV) : Bool := match v with
  | .e (.c (.bool _)) => true
  | _ => false
/-- Whether it may be told by constants. -/
def peekC (Tb : Tab) (Sh : Shp) (cb : SCall) (cx : List CE) (c : IC) (S : SS) : Bool :=
  match firstC c with
  | some (ops, d, x) => match (if d then drawS Tb Sh cb cx ops 0 [] S else opsS Tb Sh cb cx ops (mArgs [x]) S) with
    | some r => r.l.all fun s => isCB (sarg s.env x)
    | none => true
  | none => true
/-- Code. -/
def exec (Tb : Tab) (Sh : Shp) (cb : SCall) (cx : List CE) (rd : Option Nat) (exits : List (Nat × Mask)) (rt : Mask) : IC → Mask → SS → Option (R Lf)
  | .skip, _, S => some (R.ret (.normal, S))
  | .region ops draw, out, S => match (if draw then drawS Tb Sh cb cx ops 0 [] S else opsS Tb Sh cb cx ops out S) with
    | some r => meet S.n (mapR (fun s => (Ex.normal, pruneS out s)) r)
    | none => none
  | .seq a b, out, S => match exec Tb Sh cb cx rd exits rt a (live exits rt b out) S with
    | some r => r.bind fun p => if exB p.1 .normal then exec Tb Sh cb cx rd exits rt b out p.2 else some (R.ret p)
    | none => none
  | .cond c a b, out, S => match sarg S.env c with
    | .e (.c (.bool true)) => exec Tb Sh cb cx rd exits rt a out S
    | .e (.c (.bool false)) => exec Tb Sh cb cx rd exits rt b out S
    | .e x =>
      let S1 := match c with
        | .t j => setAt S j true
        | _ => S
      let S2 := match c with
        | .t j => setAt S j false
        | _ => S
      match exec Tb Sh cb cx rd exits rt a out S1, exec Tb Sh cb cx rd exits rt b out S2 with
      | some r1, some r2 => meet S.n (mapR (fun p => (p.1, if exB p.1 .normal then pruneS out p.2 else p.2)) (R.ite x r1 r2))
      | _, _ => none
    | _ => none
  | .block id c, out, S => match exec Tb Sh cb cx rd ((id, out) :: exits) rt c out S with
    | some r => meet S.n (mapR (fun p => match p.1 with
      | .exit id' => if id' = id then (Ex.normal, pruneS out p.2) else p
      | _ => p) r)
    | none => none
  | .loop c, _, S =>
    let m0 := live exits rt c 0
    let m1 := live exits rt c m0
    let m := m1 ||| live exits rt c m1
    let body := fun S => (exec Tb Sh cb cx rd exits rt c m S).map (mapR fun p => (p.1, if exB p.1 .normal then pruneS m p.2 else p.2))
    let S0 := pruneS m S
    if peekC Tb Sh cb cx c S0 then unroll body (fun S => tryLoop S.n S body 6 (au S.n S S)) 40 S0 else tryLoop S0.n S0 body 6 (au S0.n S0 S0)
  | .exit id, _, S => some (R.ret (.exit id, pruneS (mLook id exits) S))
  | .ret, _, S => some (R.ret (.ret, pruneS rt S))
  | .scope c, out, S => exec Tb Sh cb cx rd exits rt c out S
  | .rangeF g ps a b, out, S => match sarg S.env g with
    | .fn f first caps => if (Tb f).isSome then
        let m := live exits rt (.rangeF (.c .nilF) ps a b) out
        let pos := S.stk.length
        match cb (cx ++ [⟨pos, ps, a, b, m, exits, rt⟩]) (.fn f) (first ++ [.yld cx.length] ++ caps) { S with env := [], stk := S.stk ++ [⟨prune m 0 S.env, .ready, .normal⟩] } with
        | some r => match r.bind (fun p => match p.2.stk[pos]? with
            | some fr => if panB fr.pend then none else match fr.st with
              | .busy => none
              | _ => some (R.ret (fr.pend, cleanS cx.length { p.2 with env := fr.env, stk := p.2.stk.take pos }))
            | none => none) with
          | some r => meet S.n r
          | none => none
        | none => none
      else none
    | _ => none
  | .bad, _, _ => some ⟨.fail, []⟩
/-- What a function returns. -/
def resS (S : SS) : IRes → Option SV
  | .t n => some (sget S.env n)
  | .cell n k => match sget S.env n with
    | .ptr id j => match bget S.heap id with
      | some (.cells cs) => partS k cs j
      | _ => none
    | _ => none
def resSL (S : SS) : List IRes → Option (List SV)
  | [] => some []
  | r :: rs => match resS S r, resSL S rs with
    | some v, some vs => some (v :: vs)
    | _, _ => none
def tupS : List SV → SV
  | [v] => v
  | vs => .tup vs
def resM (l : List IRes) : Mask := l.foldl (fun m r => match r with
  | .t n => m ||| (1 <<< n)
  | .cell n _ => m ||| (1 <<< n)) 0
/-- The result of a call that was gone through here. -/
def okRes : List SV → Bool
  | [.unk] => false
  | _ => true
def backS (fn : IFn) (pos : Nat) (p : Lf) : Option (R (SV × SS)) :=
  match p.1 with
  | .exit _ => none
  | .pan _ => none
  | _ => match resSL p.2 fn.res, p.2.stk[pos]? with
    | some vs, some fr => if okRes vs then some (R.ret (tupS vs, { p.2 with env := fr.env, stk := p.2.stk.take pos })) else none
    | _, _ => none
def setP : List SV → List Nat → List SV → List SV
  | env, p :: ps, v :: vs => setP (env.set p v) ps vs
  | env, _, _ => env
/-- A round ends. -/
def endS (e : CE) (pos : Nat) (p : Lf) : Option (R (SV × SS)) :=
  match p.2.stk[pos]?, p.2.stk[e.pos]? with
  | some back, some fr => if stB fr.st .busy && decide (e.pos < pos) && !panB p.1 then
      some (R.ret (SV.e (.c (.bool (exB p.1 .normal))), { p.2 with env := back.env, stk := (p.2.stk.take pos).set e.pos { fr with st := if exB p.1 .normal then .ready else .done, pend := p.1 } })) else none
  | _, _ => none
/-- A round, behind its beginning. -/
def roundS (Tb : Tab) (Sh : Shp) (cb : SCall) (cx : List CE) (k : Nat) (e : CE) (pos : Nat) (p : Lf) : Option (R (SV × SS)) :=
  if exB p.1 .normal then
    match p.2.stk[e.pos]? with
    | some fr => if stB fr.st .ready then
        match exec Tb Sh cb cx (some k) e.ex e.rt e.b e.lv { p.2 with stk := p.2.stk.set e.pos { fr with st := .busy } } with
        | some rb => rb.bind (endS e pos)
        | none => none
      else none
    | none => none
  else none
def callS (Tb : Tab) (Sh : Shp) : Nat → SCall
  | 0 => fun _ _ _ _ => none
  | n + 1 => fun cx c args S => match c with
    | .pu _ => none
    | .df _ _ => none
    | .fn f => match Tb f with
      | none => none
      | some fn =>
        let pos := S.stk.length
        match exec Tb Sh (callS Tb Sh n) cx none [] (resM fn.res) fn.body (resM fn.res) { S with env := args ++ List.replicate (fn.ntmps - args.length) undefS, stk := S.stk ++ [⟨S.env, .ready, .normal⟩] } with
        | some r => r.bind (backS fn pos)
        | none => none
    | .yl k => match cx[k]? with
      | none => none
      | some e => match S.stk[e.pos]? with
        | none => none
        | some fr =>
          if !stB fr.st .ready || !(args.length == e.ps.length) then none else
          let pos := S.stk.length
          match exec Tb Sh (callS Tb Sh n) cx (some k) e.ex e.rt e.a (live e.ex e.rt e.b e.lv) { S with env := setP fr.env e.ps args, stk := S.stk ++ [⟨S.env, .ready, .normal⟩] } with
          | none => none
          | some ra => ra.bind (roundS Tb Sh (callS Tb Sh n) cx k e pos)
/-! Functions -/
def rsV1 (heap : List HB) : SV → Option RS
  | .e _ => some .e
  | .own id => match bget heap id with
    | some (.list s _ none) => some (.own s)
    | _ => none
  | .nil => some (.own 0)
  | _ => none
def rsVL (heap : List HB) : List SV → Option (List RS)
  | [] => some []
  | v :: vs => match rsV1 heap v, rsVL heap vs with
    | some r, some rs => some (r :: rs)
    | _, _ => none
def rsV2 (heap : List HB) : SV → Option RS
  | .agg cs => (rsVL heap cs).map .node
  | v => rsV1 heap v
def rsVM (heap : List HB) : List SV → Option (List RS)
  | [] => some []
  | v :: vs => match rsV2 heap v, rsVM heap vs with
    | some r, some rs => some (r :: rs)
    | _, _ => none
def rsV (heap : List HB) : SV → Option RS
  | .tup vs => (rsVM heap vs).map .tup
  | v => rsV2 heap v
/-- Whether a result is like that. -/
def likeV1 (heap : List HB) : RS → SV → Bool
  | .e, .e _ => true
  | .e, .nil => true
  | .own _, .nil => true
  | .own s, .own id => match bget heap id with
    | some (.list s' _ none) => s == s'
    | _ => false
  | _, _ => false
def likeVL (heap : List HB) : List RS → List SV → Bool
  | [], [] => true
  | r :: rs, v :: vs => likeV1 heap r v && likeVL heap rs vs
  | _, _ => false
def likeV2 (heap : List HB) : RS → SV → Bool
  | .node rs, .agg cs => likeVL heap rs cs
  | r, v => likeV1 heap r v
def likeVM (heap : List HB) : List RS → List SV → Bool
  | [], [] => true
  | r :: rs, v :: vs => likeV2 heap r v && likeVM heap rs vs
  | _, _ => false
def likeV (heap : List HB) : RS → SV → Bool
  | .tup rs, .tup vs => likeVM heap rs vs
  | r, v => likeV2 heap r v
/-- Lists of one's own in a result. -/
def idsR1 : SV → List Nat
  | .own id => [id]
  | _ => []
def idsRL : List SV → List Nat
  | [] => []
  | v :: vs => idsR1 v ++ idsRL vs
def idsR2 : SV → List Nat
  | .agg cs => idsRL cs
  | v => idsR1 v
def idsRM : List SV → List Nat
  | [] => []
  | v :: vs => idsR2 v ++ idsRM vs
def idsR : SV → List Nat
  | .tup vs => idsRM vs
  | v => idsR2 v
def outE (heap : List HB) : SV → Option E
  | .tup vs => (toEL heap vs).map .node
  | v => toE heap v
def joinRS1 : RS → RS → RS
  | .own 0, r => r
  | r, .own 0 => r
  | r, _ => r
def joinRSL : List RS → List RS → List RS
  | a :: as, b :: bs => joinRS1 a b :: joinRSL as bs
  | _, _ => []
def joinRS2 : RS → RS → RS
  | .node a, .node b => .node (joinRSL a b)
  | a, b => joinRS1 a b
def joinRSM : List RS → List RS → List RS
  | a :: as, b :: bs => joinRS2 a b :: joinRSM as bs
  | _, _ => []
def joinRS : RS → RS → RS
  | .tup a, .tup b => .tup (joinRSM a b)
  | a, b => joinRS2 a b
/-- The first slots: the arguments. -/
def argsS : Nat → List (Option Nat) → List SV
  | _, [] => []
  | i, none :: ps => .e (.v i) :: argsS (i + 1) ps
  | i, some n :: ps => .agg ((List.range n).map fun j => .e (.cell (.v i) j)) :: argsS (i + 1) ps
def fnS (Tb : Tab) (Sh : Shp) (d : Nat) (ps : List (Option Nat)) (f : FuncId) : Option Fn :=
  match Tb f with
  | none => none
  | some fn =>
    match exec Tb Sh (callS Tb Sh d) [] none [] (resM fn.res) fn.body (resM fn.res) ⟨argsS 0 ps ++ List.replicate (fn.ntmps - ps.length) undefS, [], [], ps.length⟩ with
    | none => none
    | some r => match r.l.mapM (fun p => match p.1 with
        | .exit _ => none
        | .pan _ => none
        | _ => (resSL p.2 fn.res).map fun vs => (tupS vs, p.2)) with
      | none => none
      | some l => match l.mapM (fun p => rsV p.2.heap p.1), l.mapM (fun p => outE p.2.heap p.1) with
        | some (r0 :: rs), some es =>
          let rs := rs.foldl joinRS r0
          if l.all fun p => likeV p.2.heap rs p.1 && noDup (idsR p.1) then some ⟨ps, r.t, es, rs⟩ else none
        | _, _ => none
end Go.Q
/- Soundness: operands, memory, the operations that call nothing. -/
set_option linter.unusedVariables false
set_option linter.unusedSimpArgs false
namespace Go.V
open Go.RowKit
variable {P : Program}

/-! Lists of cells -/
theorem Reps.size {w : World} {S : Nat → Prop} {φ : Phi} {cs : List AV} {vs : Array Value} (h : Reps w S φ cs vs) : vs.size = cs.length := h.1
theorem Reps.get {w : World} {S : Nat → Prop} {φ : Phi} {cs : List AV} {vs : Array Value} (h : Reps w S φ cs vs) {i : Nat} {c : AV} (hc : cs[i]? = some c) : ∃ v, vs[i]? = some v ∧ Rep w S φ c v := by
  have hi : i < cs.length := by
    rcases Nat.lt_or_ge i cs.length with h' | h'
    · exact h'
    · rw [List.getElem?_eq_none h'] at hc; cases hc
  have hv : i < vs.size := by rw [h.1]; exact hi
  exact ⟨vs[i], by simp [hv], h.2 i c _ hc (by simp [hv])⟩
theorem undef_rep {w : World} {S : Nat → Prop} {φ : Phi} : Rep w S φ undefA undef := .tup rfl (by intro i c v h; simp at h)
theorem Reps.getD {w : World} {S : Nat → Prop} {φ : Phi} {env : List AV} {vs : Array Value} (h : Reps w S φ env vs) (n : Nat) : Rep w S φ (env.getD n undefA) (vs.getD n undef) := by
  by_cases hn : n < env.length
  · obtain ⟨v, hv, hr⟩ := h.get (i := n) (c := env[n]) (by simp [hn])
    have e1 : env.getD n undefA = env[n] := by simp [List.getD, hn]
    have e2 : vs.getD n undef = v := by rw [Array.getD_eq_getD_getElem?, hv]; rfl
    rw [e1, e2]; exact hr
  · have e1 : env.getD n undefA = undefA := by simp [List.getD, List.getElem?_eq_none (Nat.le_of_not_lt hn)]
    have e2 : vs.getD n undef = undef := by
      have : vs[n]? = none := Array.getElem?_eq_none (by rw [h.1]; omega)
      rw [Array.getD_eq_getD_getElem?, this]; rfl
    rw [e1, e2]; exact undef_rep
theorem reps_nil {w : World} {S : Nat → Prop} {φ : Phi} : Reps w S φ [] #[] := ⟨rfl, by intro i c v h; simp at h⟩
theorem reps_list {w : World} {S : Nat → Prop} {φ : Phi} : ∀ {cs : List AV} {vs : List Value}, cs.length = vs.length → (∀ (i : Nat) c v, cs[i]? = some c → vs[i]? = some v → Rep w S φ c v) → Reps w S φ cs vs.toArray :=
  fun hl h => ⟨by simp [hl], fun i c v h1 h2 => h i c v h1 (by simpa using h2)⟩
theorem Reps.cons {w : World} {S : Nat → Prop} {φ : Phi} {c : AV} {v : Value} {cs : List AV} {vs : List Value} (h : Rep w S φ c v) (hs : Reps w S φ cs vs.toArray) : Reps w S φ (c :: cs) (v :: vs).toArray := by
  refine ⟨by have := hs.1; simp at this ⊢; exact this, fun i c' v' h1 h2 => ?_⟩
  cases i with
  | zero => simp at h1 h2; subst h1 h2; exact h
  | succ i => simp at h1 h2; exact hs.2 i c' v' h1 (by simpa using h2)
theorem Reps.append {w : World} {S : Nat → Prop} {φ : Phi} {a b : List AV} {x y : Array Value} (h : Reps w S φ a x) (k : Reps w S φ b y) : Reps w S φ (a ++ b) (x ++ y) := by
  refine ⟨by simp [h.1, k.1], fun i c v h1 h2 => ?_⟩
  by_cases hi : i < a.length
  · rw [List.getElem?_append_left hi] at h1
    rw [Array.getElem?_append_left (by rw [h.1]; exact hi)] at h2
    exact h.2 i c v h1 h2
  · rw [List.getElem?_append_right (by omega)] at h1
    rw [Array.getElem?_append_right (by rw [h.1]; omega), h.1] at h2
    exact k.2 _ c v h1 h2
theorem Reps.toList {w : World} {S : Nat → Prop} {φ : Phi} {a : List AV} {x : Array Value} (h : Reps w S φ a x) {i : Nat} {c : AV} {v : Value} (h1 : a[i]? = some c) (h2 : x.toList[i]? = some v) : Rep w S φ c v := h.2 i c v h1 (by simpa using h2)

/-! What a value is, by the evaluator's -/
theorem Rep.inv_int {w : World} {S : Nat → Prop} {φ : Phi} {k : IntKind} {n : Int} {v : Value} (h : Rep w S φ (.int k n) v) : v = .int k n := by cases h; rfl
theorem Rep.inv_bool {w : World} {S : Nat → Prop} {φ : Phi} {b : Bool} {v : Value} (h : Rep w S φ (.bool b) v) : v = .bool b := by cases h; rfl
theorem Rep.inv_agg {w : World} {S : Nat → Prop} {φ : Phi} {cs : List AV} {v : Value} (h : Rep w S φ (.agg cs) v) : ∃ vs, v = .agg vs ∧ Reps w S φ cs vs := by cases h with | agg hl h => exact ⟨_, rfl, hl, h⟩
theorem Rep.inv_tup {w : World} {S : Nat → Prop} {φ : Phi} {cs : List AV} {v : Value} (h : Rep w S φ (.tup cs) v) : ∃ vs, v = .tuple vs ∧ Reps w S φ cs vs := by cases h with | tup hl h => exact ⟨_, rfl, hl, h⟩
theorem Rep.inv_ptr {w : World} {S : Nat → Prop} {φ : Phi} {id i j : Nat} {v : Value} (h : Rep w S φ (.ptr id i j) v) : ∃ loc, φ id = some loc ∧ v = .pointer (some ⟨loc.blk, loc.base + i * loc.sz + j, none⟩) := by cases h with | ptr h => exact ⟨_, h, rfl⟩
/-- A slice's or a pointer's memory that nobody writes. -/
def LstAt (w : World) (S : Nat → Prop) (sz : Nat) (xs : List (List AV)) (b base : Nat) : Prop :=
  (∀ x ∈ xs, x.length = sz ∧ x.all AV.one = true) ∧ S b ∧ ∀ (i j : Nat) x c, xs[i]? = some x → x[j]? = some c → ∃ v, w.cell? ⟨b, base + i * sz + j, none⟩ = some v ∧ Rep w S (fun _ => none) c v
theorem Rep.inv_ptrL {w : World} {S : Nat → Prop} {φ : Phi} {sz i j : Nat} {xs : List (List AV)} {v : Value} (h : Rep w S φ (.ptrL sz xs i j) v) : ∃ b base, v = .pointer (some ⟨b, base + i * sz + j, none⟩) ∧ LstAt w S sz xs b base := by
  cases h with
  | ptrL vals hs hS hc hr => exact ⟨_, _, rfl, hs, hS, fun i j x c h1 h2 => ⟨_, hc i j x c h1 h2, hr i j x c h1 h2⟩⟩
theorem Rep.inv_lst {w : World} {S : Nat → Prop} {φ : Phi} {sz : Nat} {xs : List (List AV)} {v : Value} (h : Rep w S φ (.lst sz xs) v) : ∃ a cap, v = .slice a xs.length cap ∧ xs.length ≤ cap ∧ (xs = [] ∨ ∃ b base, a = some ⟨b, base, none⟩ ∧ LstAt w S sz xs b base) := by
  cases h with
  | lst vals hs hS hl hc hr => exact ⟨_, _, rfl, hl, .inr ⟨_, _, rfl, hs, hS, fun i j x c h1 h2 => ⟨_, hc i j x c h1 h2, hr i j x c h1 h2⟩⟩⟩
  | lstNil => exact ⟨_, _, rfl, Nat.zero_le _, .inl rfl⟩
/-- The cells of an immutable slice, as a function. -/
theorem LstAt.vals {w : World} {S : Nat → Prop} {sz : Nat} {xs : List (List AV)} {b base : Nat} (h : LstAt w S sz xs b base) : ∃ vals : Nat → Nat → Value,
    (∀ (i j : Nat) x c, xs[i]? = some x → x[j]? = some c → w.cell? ⟨b, base + i * sz + j, none⟩ = some (vals i j)) ∧
    (∀ (i j : Nat) x c, xs[i]? = some x → x[j]? = some c → Rep w S (fun _ => none) c (vals i j)) := by
  refine ⟨fun i j => (w.cell? ⟨b, base + i * sz + j, none⟩).getD undef, fun i j x c h1 h2 => ?_, fun i j x c h1 h2 => ?_⟩
  · obtain ⟨v, h3, h4⟩ := h.2.2 i j x c h1 h2; simp [h3]
  · obtain ⟨v, h3, h4⟩ := h.2.2 i j x c h1 h2; simpa [h3] using h4
theorem LstAt.lst {w : World} {S : Nat → Prop} {φ : Phi} {sz cap : Nat} {xs : List (List AV)} {b base : Nat} (h : LstAt w S sz xs b base) (hl : xs.length ≤ cap) : Rep w S φ (.lst sz xs) (.slice (some ⟨b, base, none⟩) xs.length cap) := by
  obtain ⟨vals, h1, h2⟩ := h.vals
  exact .lst vals h.1 h.2.1 hl h1 h2
theorem LstAt.ptrL {w : World} {S : Nat → Prop} {φ : Phi} {sz i j : Nat} {xs : List (List AV)} {b base : Nat} (h : LstAt w S sz xs b base) : Rep w S φ (.ptrL sz xs i j) (.pointer (some ⟨b, base + i * sz + j, none⟩)) := by
  obtain ⟨vals, h1, h2⟩ := h.vals
  exact .ptrL vals h.1 h.2.1 h1 h2

/-! Constants -/
theorem Rep.inv_emp {w : World} {S : Nat → Prop} {φ : Phi} {z : Bool} {v : Value} (h : Rep w S φ (.emp z) v) : ∃ a cap, v = .slice (some a) 0 cap ∧ (z = true → cap = 0) := by cases h with | emp h => exact ⟨_, _, rfl, h⟩
theorem ofValue1_rep {w : World} {S : Nat → Prop} {φ : Phi} : ∀ {v : Value} {a : AV}, ofValue1 v = some a → Rep w S φ a v ∧ a.one = true
  | .bool b, _, h => by cases h; exact ⟨.bool, rfl⟩
  | .int k n, _, h => by cases h; exact ⟨.int, rfl⟩
  | .string s, _, h => by cases h; exact ⟨.str, rfl⟩
  | .pointer none, _, h => by cases h; exact ⟨.nilP, rfl⟩
  | .slice none 0 0, _, h => by cases h; exact ⟨.nilS, rfl⟩
  | .nilFunc, _, h => by cases h; exact ⟨.nilF, rfl⟩
  | .slice none (n + 1) c, _, h => by simp [ofValue1] at h
  | .slice none 0 (c + 1), _, h => by simp [ofValue1] at h
  | .slice (some _) _ _, _, h => by simp [ofValue1] at h
  | .pointer (some _), _, h => by simp [ofValue1] at h
  | .map none, _, h => by cases h; exact ⟨.mapN, rfl⟩
  | .nilIface, _, h => by cases h; exact ⟨.ifcN, rfl⟩
  | .map (some _), _, h => by simp [ofValue1] at h
  | .float .., _, h | .complex .., _, h | .chan _, _, h | .func .., _, h | .iface .., _, h | .agg _, _, h | .tuple _, _, h => by simp [ofValue1] at h
theorem ofCells_rep {w : World} {S : Nat → Prop} {φ : Phi} : ∀ {vs : List Value} {as : List AV}, ofCells vs = some as → Reps w S φ as vs.toArray ∧ ∀ a ∈ as, a.one = true
  | [], _, h => by cases h; exact ⟨reps_nil, by simp⟩
  | v :: vs, as, h => by
    simp only [ofCells] at h
    split at h
    · rename_i a as' h1 h2
      cases h
      obtain ⟨r1, o1⟩ := ofValue1_rep (w := w) (S := S) (φ := φ) h1
      obtain ⟨r2, o2⟩ := ofCells_rep (w := w) (S := S) (φ := φ) h2
      exact ⟨Reps.cons r1 r2, by simp only [List.mem_cons]; intro b hb; exact hb.elim (fun e => e ▸ o1) (fun e => o2 _ e)⟩
    · cases h
theorem ofValue_rep {w : World} {S : Nat → Prop} {φ : Phi} {v : Value} {a : AV} (h : ofValue v = some a) : Rep w S φ a v := by
  unfold ofValue at h
  split at h
  · rename_i cs
    cases h1 : ofCells cs.toList with
    | none => rw [h1] at h; cases h
    | some as =>
      rw [h1] at h; cases h
      have := (ofCells_rep (w := w) (S := S) (φ := φ) h1).1
      exact .agg (by simpa using this.1) (by simpa using this.2)
  · exact (ofValue1_rep h).1

/-! Operands -/
theorem arg_rep {w : World} {S : Nat → Prop} {φ : Phi} {env : List AV} {a : Act} (he : Reps w S φ env a.tmps) {x : Operand} {ar : Arg} (h : cOpd x = some ar) : Rep w S φ (arg env ar) (a.eval x) := by
  cases x with
  | tmp t => cases h; rw [arg_t]; exact he.getD t
  | const v =>
    simp only [cOpd] at h
    cases h1 : ofValue v with
    | none => rw [h1] at h; cases h
    | some c => rw [h1] at h; cases h; exact ofValue_rep h1
  | func f => cases h; exact .fn rfl (by intro i c v h; simp at h) rfl (by intro i c v h; simp at h)
  | global g => cases h
theorem args_rep {w : World} {S : Nat → Prop} {φ : Phi} {env : List AV} {a : Act} (he : Reps w S φ env a.tmps) : ∀ {xs : List Operand} {ars : List Arg}, cOpds xs = some ars → Reps w S φ (ars.map (arg env)) (xs.map a.eval).toArray
  | [], _, h => by cases h; exact reps_nil
  | x :: xs, ars, h => by
    simp only [cOpds] at h
    split at h
    · rename_i b bs h1 h2
      cases h
      exact Reps.cons (arg_rep he h1) (args_rep he h2)
    · cases h
/-- A value's cells. -/
theorem Rep.notAgg {w : World} {S : Nat → Prop} {φ : Phi} {x : AV} {v : Value} (h : Rep w S φ x v) (hx : ∀ cs, x ≠ .agg cs) : ∀ vs, v ≠ .agg vs := by
  cases h <;> intro vs e <;> first | (cases e; done) | (exact hx _ rfl)
theorem reps_one {w : World} {S : Nat → Prop} {φ : Phi} {x : AV} {v : Value} (h : Rep w S φ x v) : Reps w S φ [x] #[v] := Reps.cons (vs := []) h reps_nil
theorem cells_rep {w : World} {S : Nat → Prop} {φ : Phi} {x : AV} {v : Value} (h : Rep w S φ x v) : Reps w S φ x.cells v.cells := by
  by_cases hx : ∃ cs, x = .agg cs
  · obtain ⟨cs, rfl⟩ := hx
    obtain ⟨vs, rfl, hr⟩ := h.inv_agg
    exact hr
  · have hx' : ∀ cs, x ≠ .agg cs := fun cs e => hx ⟨cs, e⟩
    have hv := h.notAgg hx'
    have e1 : x.cells = [x] := by cases x <;> first | rfl | exact absurd rfl (hx' _)
    have e2 : v.cells = #[v] := by cases v <;> first | rfl | exact absurd rfl (hv _)
    rw [e1, e2]; exact reps_one h
/-- What fills one cell fills one cell in the model. -/
theorem Rep.oneCell {w : World} {S : Nat → Prop} {φ : Phi} {x : AV} {v : Value} (h : Rep w S φ x v) (h1 : x.one = true) : v.oneCell' = true := by
  cases h <;> first | rfl | (simp [AV.one] at h1)
theorem reps_oneCell {w : World} {S : Nat → Prop} {φ : Phi} {cs : List AV} {vs : Array Value} (h : Reps w S φ cs vs) (h1 : cs.all AV.one = true) : ∀ v ∈ vs.toList, v.oneCell' = true := by
  intro v hv
  obtain ⟨i, hi, rfl⟩ := List.getElem_of_mem hv
  have hi' : i < cs.length := by have := h.1; simp at hi; omega
  have := h.2 i cs[i] vs.toList[i] (by simp [hi']) (by simp)
  exact this.oneCell (by rw [List.all_eq_true] at h1; exact h1 _ (List.getElem_mem hi'))

/-! What an operation leaves -/
def updH (h : Mem) (wr : Wr) : Mem := wr.foldl (fun h p => fun id => if id = p.1 then p.2 else h id) h
theorem updH_nil (h : Mem) : updH h [] = h := rfl
theorem updH_one (h : Mem) (id : Nat) (b : Option Blk) : updH h [(id, b)] = fun i => if i = id then b else h i := rfl
structure Done (P : Program) (S : Nat → Prop) (φ : Phi) (h : Mem) (w : World) (v : AV) (wr : Wr) (nx nx' : Nat) (S' : Nat → Prop) (φ' : Phi) (vv : Value) (w' : World) : Prop where
  adv : Adv S φ h w S' φ' (updH h wr) w'
  sim : Sim P S' φ' (updH h wr) w'
  rep : Rep w' S' φ' v vv
  only : ∀ id, (id < nx ∨ nx' ≤ id) → φ' id = φ id
def Ends (P : Program) (S : Nat → Prop) (φ : Phi) (h : Mem) (w : World) (v : AV) (wr : Wr) (nx nx' : Nat) (vv : Value) (w' : World) : Prop := ∃ S' φ', Done P S φ h w v wr nx nx' S' φ' vv w'
theorem ends_pure {S : Nat → Prop} {φ : Phi} {h : Mem} {w : World} {v : AV} {nx : Nat} {vv : Value} (hs : Sim P S φ h w) (hr : Rep w S φ v vv) : Ends P S φ h w v [] nx nx vv w :=
  ⟨S, φ, Adv.refl _ _ _ _, hs, hr, fun _ _ => rfl⟩

/-- A new block. -/
theorem shape_alloc {w : World} {o : Obj} {b : Nat} {e : TypeId} {n : Nat} (h : w.shape? b = some (e, n)) : (w.alloc o).shape? b = some (e, n) := by
  unfold World.shape? at *
  cases hb : w.heap[b]? with
  | none => rw [hb] at h; cases h
  | some x =>
    have hlt := (Array.getElem?_eq_some_iff.1 hb).1
    rw [Below.heap_alloc w o b hlt, hb]; rw [hb] at h; exact h
theorem new_ends {S : Nat → Prop} {φ : Phi} {h : Mem} {w : World} {nx sz : Nat} {xs : List (List AV)} {c : Array Value} {e : TypeId} (hs : Sim P S φ h w) (hn : φ nx = none)
    (hl : ∀ x ∈ xs, x.length = sz) (hsz : xs.length * sz ≤ c.size) (h1 : ∀ x ∈ xs, x.all AV.one = true)
    (hc : ∀ (i j : Nat) x a, xs[i]? = some x → x[j]? = some a → ∃ v, c[i * sz + j]? = some v ∧ Rep w S φ a v) :
    let φ' : Phi := fun id => if id = nx then some ⟨w.heap.size, 0, sz⟩ else φ id
    let h' : Mem := fun id => if id = nx then some (.row sz xs) else h id
    Adv S φ h w S φ' h' (w.alloc (.cells c e)) ∧ Sim P S φ' h' (w.alloc (.cells c e)) := by
  have hh : h nx = none := by
    cases hb : h nx with
    | none => rfl
    | some b => obtain ⟨loc, e1, -⟩ := hs.blk nx b hb; rw [hn] at e1; cases e1
  have hadv : Adv S φ h w S (fun id => if id = nx then some ⟨w.heap.size, 0, sz⟩ else φ id) (fun id => if id = nx then some (.row sz xs) else h id) (w.alloc (.cells c e)) := by
    refine ⟨fun id loc e1 => ?_, fun _ e => e, fun _ e => .inl e, rfl, rfl, rfl, by simp, fun b hb _ => Below.heap_alloc w _ b hb, ?_, fun b e n hb => shape_alloc hb⟩
    · have : id ≠ nx := by rintro rfl; rw [hn] at e1; cases e1
      simp [this, e1]
    · rintro b ⟨id, x, loc, e1, e2, e3⟩
      by_cases hid : id = nx
      · subst hid; simp at e2; subst e2; right; simp at e3; omega
      · simp [hid] at e1 e2; exact .inl ⟨id, x, loc, e1, e2, e3⟩
  refine ⟨hadv, ?_, ?_, ?_⟩
  · intro id b hb
    by_cases hid : id = nx
    · subst hid
      simp at hb; subst hb
      refine ⟨⟨w.heap.size, 0, sz⟩, by simp, ⟨rfl, hl, c, e, World.alloc_heap_new w _, by simpa using hsz, fun i j x a e1 e2 => ?_⟩, fun hS => absurd (hs.bd _ hS) (by simp)⟩
      obtain ⟨v, e3, e4⟩ := hc i j x a e1 e2
      have hx := h1 x (List.mem_of_getElem? e1)
      rw [List.all_eq_true] at hx
      exact ⟨hx a (List.mem_of_getElem? e2), v, by simpa using e3, hadv.rep hs e4⟩
    · simp [hid] at hb
      obtain ⟨loc, e1, e2, e3⟩ := hs.blk id b hb
      exact ⟨loc, by simp [hid, e1], e2.adv hadv hs (Below.heap_alloc w _ _ e2.lt), e3⟩
  · intro id id' b b' loc loc' a1 a2 a3 a4 a5
    by_cases hid : id = nx <;> by_cases hid' : id' = nx
    · rw [hid, hid']
    · subst hid
      simp at a3; subst a3
      simp [hid'] at a2 a4
      have := hs.lt a2 a4
      simp at a5; omega
    · subst hid'
      simp at a4; subst a4
      simp [hid] at a1 a3
      have := hs.lt a1 a3
      simp at a5; omega
    · simp [hid] at a1 a3; simp [hid'] at a2 a4
      exact hs.inj id id' b b' loc loc' a1 a2 a3 a4 a5
  · intro b hb
    exact Nat.lt_of_lt_of_le (hs.bd b hb) (by simp)
end Go.V
/- Soundness: loads and stores. -/
set_option linter.unusedVariables false
set_option linter.unusedSimpArgs false
namespace Go.V
open Go.RowKit
variable {P : Program}

theorem add_none (b o n : Nat) : (⟨b, o, none⟩ : Addr).add n = ⟨b, o + n, none⟩ := by unfold Addr.add; split <;> simp_all
theorem run_isAgg {P : Program} {t : TypeId} {d : TypeDesc} (h : P.underlying t = some d) (w : World) : (isAgg t).run P w = .ok (isAggD d) w := by
  unfold isAgg
  rw [Sem.run_bind, run_underlying h]
  cases d <;> rfl
theorem run_size {P : Program} {t : TypeId} {i : TypeInfo} (h : P.info? t = some i) (w : World) : (sizeOf t).run P w = .ok i.size w := by
  simp [sizeOf, typeInfo, h]
theorem sizeK_spec {P : Program} {t : TypeId} {n : Nat} (h : sizeK P t = some n) : ∃ i, P.info? t = some i ∧ i.size = n := by
  unfold sizeK at h
  cases hi : P.info? t with
  | none => rw [hi] at h; cases h
  | some i => rw [hi] at h; cases h; exact ⟨i, rfl, rfl⟩
theorem run_sizeK {P : Program} {t : TypeId} {n : Nat} (h : sizeK P t = some n) (w : World) : (sizeOf t).run P w = .ok n w := by
  obtain ⟨i, h1, rfl⟩ := sizeK_spec h
  exact run_size h1 w
theorem partK_spec {P : Program} {t : TypeId} {k : Option Nat} (h : partK P t = some k) : ∃ d i, P.underlying t = some d ∧ P.info? t = some i ∧ ((isAggD d = true ∧ k = some i.size) ∨ (isAggD d = false ∧ k = none)) := by
  unfold partK at h
  split at h
  · rename_i d i h1 h2
    refine ⟨d, i, h1, h2, ?_⟩
    split at h
    · rename_i h3; cases h; exact .inl ⟨h3, rfl⟩
    · rename_i h3; cases h; exact .inr ⟨by simpa using h3, rfl⟩
  · cases h
/-- A variable of a type that lies where an element's cells lie, from a place on. -/
theorem run_loadPart {P : Program} {t : TypeId} {k : Option Nat} (hk : partK P t = some k) {w : World} {S : Nat → Prop} {φ : Phi} {b o j : Nat} {x : List AV} {pv : AV}
    (hx : ∀ (i : Nat) c, x[i]? = some c → ∃ v, w.cell? ⟨b, o + i, none⟩ = some v ∧ Rep w S φ c v) (hp : part k x j = some pv) :
    ∃ vv, (loadVar t ⟨b, o + j, none⟩).run P w = .ok vv w ∧ Rep w S φ pv vv := by
  obtain ⟨d, inf, h1, h2, h3⟩ := partK_spec hk
  rcases h3 with ⟨h3, rfl⟩ | ⟨h3, rfl⟩
  · simp only [part] at hp
    split at hp
    · rename_i hle
      cases hp
      have hcell : ∀ i, i < inf.size → ∃ v, w.cell? ((⟨b, o + j, none⟩ : Addr).add i) = some v ∧ ∀ c, ((x.drop j).take inf.size)[i]? = some c → Rep w S φ c v := by
        intro i hi
        have hlt : j + i < x.length := by omega
        obtain ⟨v, e1, e2⟩ := hx (j + i) x[j + i] (by simp [hlt])
        refine ⟨v, by rw [add_none, Nat.add_assoc]; exact e1, fun c hc => ?_⟩
        rw [List.getElem?_take, if_pos hi, List.getElem?_drop] at hc
        rw [show x[j + i]? = some x[j + i] by simp [hlt]] at hc
        cases hc; exact e2
      let f : Nat → Value := fun i => (w.cell? ((⟨b, o + j, none⟩ : Addr).add i)).getD undef
      have hf : ∀ i, i < inf.size → w.cell? ((⟨b, o + j, none⟩ : Addr).add i) = some (f i) := fun i hi => by
        obtain ⟨v, e1, -⟩ := hcell i hi
        show _ = some ((w.cell? _).getD undef)
        rw [e1]; rfl
      have hrun := run_loadCells (P := P) w ⟨b, o + j, none⟩ inf.size f hf
      refine ⟨.agg ((List.range inf.size).map f).toArray, ?_, ?_⟩
      · simp only [loadVar, Sem.run_bind, run_isAgg h1, Result.andThen_ok, h3, if_true, run_size h2, hrun]
        rfl
      · refine .agg (by simp; omega) fun i c v e1 e2 => ?_
        have hi : i < inf.size := by
          rcases Nat.lt_or_ge i inf.size with h' | h'
          · exact h'
          · rw [List.getElem?_take, if_neg (by omega)] at e1; cases e1
        obtain ⟨v', e3, e4⟩ := hcell i hi
        have : v = v' := by
          have e5 : (List.range inf.size)[i]? = some i := by simp [hi]
          have e6 : (((List.range inf.size).map f).toArray)[i]? = some (f i) := by simp [hi]
          rw [e6] at e2; cases e2
          have := hf i hi
          rw [e3] at this; cases this; rfl
        rw [this]; exact e4 c e1
    · cases hp
  · simp only [part] at hp
    obtain ⟨v, e1, e2⟩ := hx j pv hp
    refine ⟨v, ?_, e2⟩
    simp only [loadVar, Sem.run_bind, run_isAgg h1, Result.andThen_ok, h3, Bool.false_eq_true, if_false, run_load, e1]
/-- What lies at an element of a block of the evaluator's own. -/
theorem SimBlk.cells {w : World} {S : Nat → Prop} {φ : Phi} {loc : Loc} {sz : Nat} {xs : List (List AV)} (h : SimBlk P w S φ loc (.row sz xs)) {i : Nat} {x : List AV} (hx : xs[i]? = some x) :
    ∀ (j : Nat) c, x[j]? = some c → ∃ v, w.cell? ⟨loc.blk, loc.base + i * loc.sz + j, none⟩ = some v ∧ Rep w S φ c v := by
  intro j c hc
  obtain ⟨f1, f2, cs, e, f3, f4, f5⟩ := h
  obtain ⟨-, v, h1, h2⟩ := f5 i j x c hx hc
  refine ⟨v, ?_, h2⟩
  simp [World.cell?, f3, f1, h1]

/-! A store -/
theorem shape_setRow {w : World} {g : Nat} {old cs : Array Value} {t : TypeId} {fr : Nat × Nat} (hg : w.heap[g]? = some (.cells old t fr)) (hs : cs.size = old.size) {b : Nat} {e : TypeId} {n : Nat} (h : w.shape? b = some (e, n)) : (w.setRow g cs).shape? b = some (e, n) := by
  by_cases hb : b = g
  · subst hb
    unfold World.shape? at *
    rw [hg] at h
    rw [setRow_heap w b old cs t fr hg]
    simp at h ⊢
    rw [hs]; exact h
  · unfold World.shape? at *
    rw [setRow_other w g b cs hb]; exact h
/-- One element of a block is turned. -/
theorem set_ends {S : Nat → Prop} {φ : Phi} {h : Mem} {w : World} {id sz i : Nat} {xs : List (List AV)} {x' : List AV} {loc : Loc} {old new : Array Value} {e : TypeId} (hs : Sim P S φ h w) (hb : h id = some (.row sz xs)) (hφ : φ id = some loc)
    (ho : w.heap[loc.blk]? = some (.cells old e (0, 0))) (hsz : new.size = old.size) (hi : i < xs.length) (hl : x'.length = sz) (h1 : x'.all AV.one = true)
    (hnew : ∀ (j : Nat) a, x'[j]? = some a → ∃ v, new[loc.base + i * sz + j]? = some v ∧ Rep w S φ a v)
    (hold : ∀ (i' j : Nat), i' ≠ i → j < sz → new[loc.base + i' * sz + j]? = old[loc.base + i' * sz + j]?) :
    let h' : Mem := fun k => if k = id then some (.row sz (xs.set i x')) else h k
    Adv S φ h w S φ h' (w.setRow loc.blk new) ∧ Sim P S φ h' (w.setRow loc.blk new) := by
  intro h'
  obtain ⟨loc', q1, q2, q3⟩ := hs.blk id _ hb
  rw [hφ] at q1; cases q1
  have hown : Own φ h loc.blk := ⟨id, _, loc, hb, hφ, rfl⟩
  have hadv : Adv S φ h w S φ h' (w.setRow loc.blk new) := by
    refine ⟨fun _ _ e => e, fun _ e => e, fun _ e => .inl e, rfl, rfl, rfl, by simp, fun b _ hn => setRow_other _ _ _ _ (fun e => hn (e ▸ hown)), ?_, fun b e n hb => shape_setRow ho hsz hb⟩
    rintro b ⟨k, y, l, e1, e2, e3⟩
    by_cases hk : k = id
    · subst hk; rw [hφ] at e2; cases e2; exact .inl (e3 ▸ hown)
    · exact .inl ⟨k, y, l, by simpa [h', hk] using e1, e2, e3⟩
  refine ⟨hadv, ?_, ?_, fun b hb => by simpa using hs.bd b hb⟩
  · intro k b hk
    by_cases hid : k = id
    · subst hid
      have hk' : some (Blk.row sz (xs.set i x')) = some b := by simpa [h'] using hk
      cases hk'
      refine ⟨loc, hφ, ?_, q3⟩
      obtain ⟨f1, f2, c, e', f3, f4, f5⟩ := q2
      rw [ho] at f3; cases f3
      refine ⟨f1, fun y hy => ?_, new, e, setRow_heap w _ _ _ _ _ ho, by simp; omega, fun i' j y a g1 g2 => ?_⟩
      · rcases List.mem_or_eq_of_mem_set hy with hy | hy
        · exact f2 y hy
        · rw [hy]; exact hl
      · by_cases hii : i' = i
        · subst hii
          rw [List.getElem?_set_self hi] at g1; cases g1
          obtain ⟨v, r1, r2⟩ := hnew j a g2
          rw [List.all_eq_true] at h1
          exact ⟨h1 a (List.mem_of_getElem? g2), v, r1, hadv.rep hs r2⟩
        · rw [List.getElem?_set_ne (Ne.symm hii)] at g1
          obtain ⟨o1, v, r1, r2⟩ := f5 i' j y a g1 g2
          have hj : j < sz := by
            have := f2 y (List.mem_of_getElem? g1)
            rcases Nat.lt_or_ge j y.length with h' | h'
            · omega
            · rw [List.getElem?_eq_none h'] at g2; cases g2
          exact ⟨o1, v, by rw [hold i' j hii hj]; exact r1, hadv.rep hs r2⟩
    · have hk' : h k = some b := by simpa [h', hid] using hk
      obtain ⟨l, p1, p2, p3⟩ := hs.blk k b hk'
      refine ⟨l, p1, ?_, p3⟩
      have hne : l.blk ≠ loc.blk := fun e => hid (hs.inj k id b _ l loc hk' hb p1 hφ e)
      exact p2.adv hadv hs (setRow_other _ _ _ _ hne)
  · intro k k' b b' l l' a1 a2 a3 a4 a5
    have key : ∀ k b, h' k = some b → ∃ b, h k = some b := fun k b hk => by
      by_cases hid : k = id
      · exact ⟨_, hid ▸ hb⟩
      · exact ⟨b, by simpa [h', hid] using hk⟩
    obtain ⟨c, a1'⟩ := key k b a1
    obtain ⟨c', a2'⟩ := key k' b' a2
    exact hs.inj k k' c c' l l' a1' a2' a3 a4 a5
theorem put_spec {x cs x' : List AV} {j : Nat} (h : put x j cs = some x') : j + cs.length ≤ x.length ∧ x' = x.take j ++ cs ++ x.drop (j + cs.length) := by
  unfold put at h
  split at h
  · rename_i hle; cases h; exact ⟨hle, rfl⟩
  · cases h
theorem put_length {x cs x' : List AV} {j : Nat} (h : put x j cs = some x') : x'.length = x.length := by
  obtain ⟨h1, rfl⟩ := put_spec h
  simp; omega
theorem put_get {x cs x' : List AV} {j : Nat} (h : put x j cs = some x') (i : Nat) : x'[i]? = if i < j then x[i]? else if i < j + cs.length then cs[i - j]? else x[i]? := by
  obtain ⟨h1, rfl⟩ := put_spec h
  by_cases a : i < j
  · rw [if_pos a, List.append_assoc, List.getElem?_append_left (by simp; omega), List.getElem?_take, if_pos a]
  · rw [if_neg a]
    by_cases b : i < j + cs.length
    · rw [if_pos b, List.append_assoc, List.getElem?_append_right (by simp; omega), List.getElem?_append_left (by simp; omega)]
      congr 1; simp; omega
    · rw [if_neg b, List.append_assoc, List.getElem?_append_right (by simp; omega), List.getElem?_append_right (by simp; omega), List.getElem?_drop]
      congr 1; simp; omega
theorem run_storePart {P : Program} {t : TypeId} {n : Nat} (hn : sizeK P t = some n) {S : Nat → Prop} {φ : Phi} {h : Mem} {w : World} {id sz i j : Nat} {xs : List (List AV)} {x x' : List AV} {loc : Loc} {y : AV} {vy : Value} (hs : Sim P S φ h w) (hb : h id = some (.row sz xs)) (hφ : φ id = some loc)
    (hx : xs[i]? = some x) (hy : Rep w S φ y vy) (hyn : y.cells.length = n) (hy1 : y.cells.all AV.one = true) (hp : put x j y.cells = some x') :
    ∃ w', (storeVar t ⟨loc.blk, loc.base + i * loc.sz + j, none⟩ vy).run P w = .ok () w' ∧
      Adv S φ h w S φ (fun k => if k = id then some (.row sz (xs.set i x')) else h k) w' ∧ Sim P S φ (fun k => if k = id then some (.row sz (xs.set i x')) else h k) w' := by
  obtain ⟨loc', q1, q2, q3⟩ := hs.blk id _ hb
  rw [hφ] at q1; cases q1
  obtain ⟨f1, f2, c, e, f3, f4, f5⟩ := q2
  have hi : i < xs.length := by
    rcases Nat.lt_or_ge i xs.length with h' | h'
    · exact h'
    · rw [List.getElem?_eq_none h'] at hx; cases hx
  have hxl : x.length = sz := f2 x (List.mem_of_getElem? hx)
  have hc := cells_rep hy
  obtain ⟨g1, -⟩ := put_spec hp
  have hbound : i * sz + sz ≤ xs.length * sz := by have := Nat.mul_le_mul_right sz (show i + 1 ≤ xs.length from hi); rw [Nat.succ_mul] at this; exact this
  have hfit : (loc.base + i * loc.sz + j) + 0 + vy.cells.toList.length ≤ c.size := by
    have := hc.1; simp at this ⊢; rw [f1]; omega
  have hrun := run_storeCells_at P loc.blk (loc.base + i * loc.sz + j) e vy.cells.toList 0 c w f3 hfit (reps_oneCell hc hy1)
  have hvl : vy.cells.toList.length = y.cells.length := by simpa using hc.1
  obtain ⟨new, hnew⟩ : ∃ new, new = (List.take (loc.base + i * loc.sz + j + 0) c.toList ++ vy.cells.toList ++ List.drop (loc.base + i * loc.sz + j + 0 + vy.cells.toList.length) c.toList).toArray := ⟨_, rfl⟩
  rw [← hnew] at hrun
  rw [f1, Nat.add_zero] at hfit hnew
  have hsize : new.size = c.size := by rw [hnew]; simp at hfit ⊢; omega
  have hget : ∀ m, new[m]? = if m < loc.base + i * sz + j then c[m]? else if m < loc.base + i * sz + j + y.cells.length then vy.cells[m - (loc.base + i * sz + j)]? else c[m]? := by
    intro m
    rw [hnew]
    simp only [List.getElem?_toArray]
    have hlen : (List.take (loc.base + i * sz + j) c.toList).length = loc.base + i * sz + j := by simp; omega
    by_cases a : m < loc.base + i * sz + j
    · rw [if_pos a, List.append_assoc, List.getElem?_append_left (by omega), List.getElem?_take, if_pos a]; simp
    · rw [if_neg a]
      by_cases b : m < loc.base + i * sz + j + y.cells.length
      · rw [if_pos b, List.append_assoc, List.getElem?_append_right (by omega), List.getElem?_append_left (by omega), hlen]; simp
      · rw [if_neg b, List.append_assoc, List.getElem?_append_right (by omega), List.getElem?_append_right (by omega), List.getElem?_drop, hlen, hvl]
        simp only [Array.getElem?_toList]
        congr 1; omega
  refine ⟨w.setRow loc.blk new, ?_, set_ends (id := id) (i := i) (x' := x') (new := new) hs hb hφ f3 hsize hi (by rw [put_length hp]; exact hxl) ?_ ?_ ?_⟩
  · simp only [storeVar, Sem.run_bind, run_sizeK hn, Result.andThen_ok]
    have : vy.cells.size = n := by rw [hc.1]; exact hyn
    simp only [this, ne_eq, not_true_eq_false, if_false]
    exact hrun
  · rw [List.all_eq_true]
    intro a ha
    obtain ⟨k, hk, rfl⟩ := List.getElem_of_mem ha
    have hg := put_get hp k
    rw [show x'[k]? = some x'[k] by simp [hk]] at hg
    have hold : ∀ b, x[k]? = some b → b.one = true := fun b hb => (f5 i k x b hx hb).1
    split at hg
    · exact hold _ hg.symm
    · split at hg
      · rw [List.all_eq_true] at hy1
        exact hy1 _ (List.mem_of_getElem? hg.symm)
      · exact hold _ hg.symm
  · intro k a ha
    have hk : k < sz := by
      rcases Nat.lt_or_ge k x'.length with h' | h'
      · rw [put_length hp] at h'; omega
      · rw [List.getElem?_eq_none h'] at ha; cases ha
    rw [put_get hp k] at ha
    rw [hget]
    split at ha
    · rename_i hlt
      obtain ⟨-, v, r1, r2⟩ := f5 i k x a hx ha
      exact ⟨v, by rw [if_pos (by omega)]; exact r1, r2⟩
    · split at ha
      · rename_i hlt hlt2
        obtain ⟨v, r1, r2⟩ := hc.get ha
        exact ⟨v, by rw [if_neg (by omega), if_pos (by omega), show loc.base + i * sz + k - (loc.base + i * sz + j) = k - j by omega]; exact r1, r2⟩
      · rename_i hlt hlt2
        obtain ⟨-, v, r1, r2⟩ := f5 i k x a hx ha
        exact ⟨v, by rw [if_neg (by omega), if_neg (by omega)]; exact r1, r2⟩
  · intro i' k hii hk
    rw [hget]
    have hb1 : ∀ p q : Nat, p < q → p * sz + sz ≤ q * sz := fun p q hpq => by have := Nat.mul_le_mul_right sz (show p + 1 ≤ q from hpq); rw [Nat.succ_mul] at this; exact this
    rcases Nat.lt_or_gt_of_ne hii with hlt | hlt
    · have := hb1 i' i hlt
      rw [if_pos (by omega)]
    · have := hb1 i i' hlt
      rw [if_neg (by omega), if_neg (by omega)]
end Go.V
/- Soundness: structs, arrays and slices that are built; the operations one by one. -/
set_option linter.unusedVariables false
set_option linter.unusedSimpArgs false
namespace Go.V
open Go.RowKit
variable {P : Program}

/-! 'fill' -/
theorem foldl_put : ∀ (l : List Value) (off k0 : Nat) (cs : Array Value), off + k0 + l.length ≤ cs.size →
    ((l.zipIdx k0).foldl (fun (cs : Array Value) (p : Value × Nat) => cs.setIfInBounds (off + p.2) p.1) cs).size = cs.size ∧
    ∀ m, ((l.zipIdx k0).foldl (fun (cs : Array Value) (p : Value × Nat) => cs.setIfInBounds (off + p.2) p.1) cs)[m]? = if m < off + k0 then cs[m]? else if m < off + k0 + l.length then l[m - (off + k0)]? else cs[m]?
  | [], off, k0, cs, h => by
    refine ⟨rfl, fun m => ?_⟩
    simp only [List.zipIdx_nil, List.foldl_nil, List.length_nil, Nat.add_zero]
    split
    · rfl
    · rfl
  | v :: l, off, k0, cs, h => by
    simp only [List.length_cons] at h
    obtain ⟨h1, h2⟩ := foldl_put l off (k0 + 1) (cs.setIfInBounds (off + k0) v) (by simp; omega)
    simp only [List.zipIdx_cons, List.foldl_cons]
    refine ⟨by rw [h1]; simp, fun m => ?_⟩
    rw [h2 m]
    by_cases a : m < off + k0
    · rw [if_pos (by omega), if_pos a, Array.getElem?_setIfInBounds_ne (by omega)]
    · rw [if_neg a]
      by_cases b : m = off + k0
      · subst b
        rw [if_pos (by omega), if_pos (by simp), Array.getElem?_setIfInBounds_self_of_lt (by omega)]
        simp
      · rw [if_neg (by omega)]
        by_cases c : m < off + k0 + (l.length + 1)
        · rw [if_pos (by omega), if_pos (by simpa using c)]
          rw [show m - (off + k0) = (m - (off + (k0 + 1))) + 1 by omega]
          simp
        · rw [if_neg (by omega), if_neg (by simpa using c), Array.getElem?_setIfInBounds_ne (by omega)]
theorem fill_step {w : World} {S : Nat → Prop} {φ : Phi} {zs cs' : List AV} {zc : Array Value} {x : AV} {v : Value} {off : Nat} (hz : Reps w S φ zs zc) (hv : Rep w S φ x v) (hp : put zs off x.cells = some cs') :
    ¬ (off + v.cells.size > zc.size) ∧ Reps w S φ cs' (v.cells.zipIdx.foldl (fun cs (c, j) => cs.setIfInBounds (off + j) c) zc) := by
  have hc := cells_rep hv
  obtain ⟨h1, -⟩ := put_spec hp
  have hfit : off + v.cells.size ≤ zc.size := by rw [hc.1, hz.1]; exact h1
  refine ⟨by omega, ?_⟩
  have hf : v.cells.zipIdx.foldl (fun cs (c, j) => cs.setIfInBounds (off + j) c) zc = (v.cells.toList.zipIdx 0).foldl (fun (cs : Array Value) (p : Value × Nat) => cs.setIfInBounds (off + p.2) p.1) zc := by
    rw [← Array.foldl_toList, Array.toList_zipIdx]
  rw [hf]
  obtain ⟨g1, g2⟩ := foldl_put v.cells.toList off 0 zc (by simpa using hfit)
  refine ⟨by rw [g1, hz.1, put_length hp], fun i c u e1 e2 => ?_⟩
  rw [g2] at e2
  rw [put_get hp] at e1
  simp only [Nat.add_zero, Array.length_toList, hc.1] at e2
  split at e1
  · rename_i hlt; rw [if_pos hlt] at e2; exact hz.2 i c u e1 e2
  · rename_i hlt; rw [if_neg hlt] at e2
    split at e1
    · rename_i hlt2; rw [if_pos hlt2] at e2; exact hc.2 _ c u e1 (by simpa using e2)
    · rename_i hlt2; rw [if_neg hlt2] at e2; exact hz.2 i c u e1 e2
theorem fill_rep {P : Program} {d : TypeDesc} {w : World} {S : Nat → Prop} {φ : Phi} {env : List AV} {a : Act} (he : Reps w S φ env a.tmps) {place : Nat → Option (Nat × Nat)} (hpl : ∀ i, place i = placesK P d i) :
    ∀ (ps : List (Nat × Operand)) (ps' : List (Nat × Nat × Arg)) (zs cs : List AV) (zc : Array Value), cParts P d ps = some ps' → Reps w S φ zs zc → fillA env ps' zs = some cs →
      ∃ cc, Instr.fill place zc (ps.map fun p => (p.1, a.eval p.2)) = some cc ∧ Reps w S φ cs cc
  | [], ps', zs, cs, zc, h1, hz, h2 => by cases h1; cases h2; exact ⟨zc, rfl, hz⟩
  | (i, x) :: ps, ps', zs, cs, zc, h1, hz, h2 => by
    simp only [cParts] at h1
    split at h1
    · rename_i o s ar as e1 e2 e3
      cases h1
      simp only [fillA] at h2
      split at h2
      · rename_i hc
        cases hput : put zs o (arg env ar).cells with
        | none => rw [hput] at h2; cases h2
        | some zs' =>
          rw [hput] at h2
          have hv := arg_rep he e2
          obtain ⟨g1, g2⟩ := fill_step hz hv hput
          obtain ⟨cc, g3, g4⟩ := fill_rep he hpl ps as zs' cs _ e3 g2 h2
          refine ⟨cc, ?_, g4⟩
          have hsz : (a.eval x).cells.size = s := by rw [(cells_rep hv).1]; exact hc.1
          simp only [List.map_cons, Instr.fill, hpl i, e1]
          rw [if_neg]
          · exact g3
          · simp only [ne_eq, hsz, not_true_eq_false, decide_false, Bool.false_or, decide_eq_true_eq]
            rw [hsz] at g1; exact g1
      · cases h2
    · cases h1
theorem fill_one {P : Program} {d : TypeDesc} {w : World} {S : Nat → Prop} {φ : Phi} {env : List AV} : ∀ (ps' : List (Nat × Nat × Arg)) (zs cs : List AV), zs.all AV.one = true → fillA env ps' zs = some cs → cs.all AV.one = true
  | [], zs, cs, h, h2 => by cases h2; exact h
  | (o, s, x) :: ps, zs, cs, h, h2 => by
    simp only [fillA] at h2
    split at h2
    · rename_i hc
      cases hput : put zs o (arg env x).cells with
      | none => rw [hput] at h2; cases h2
      | some zs' =>
        rw [hput] at h2
        refine fill_one (P := P) (d := d) (w := w) (S := S) (φ := φ) ps zs' cs ?_ h2
        obtain ⟨-, rfl⟩ := put_spec hput
        rw [List.all_eq_true] at *
        intro b hb
        simp only [List.mem_append] at hb
        have hc2 := hc.2
        rcases hb with (hb | hb) | hb
        · exact h b (List.mem_of_mem_take hb)
        · exact hc2 b hb
        · exact h b (List.mem_of_mem_drop hb)
    · cases h2

theorem zeroK_spec {P : Program} {t : TypeId} {z : List AV} (h : zeroK P t = some z) : ∃ i v, P.info? t = some i ∧ i.zero = some v ∧ ofCells v.cells.toList = some z := by
  unfold zeroK at h
  cases hi : P.info? t with
  | none => rw [hi] at h; cases h
  | some i =>
    rw [hi] at h
    cases hz : i.zero with
    | none => simp [hz] at h
    | some v => simp [hz] at h; exact ⟨i, v, rfl, hz, h⟩
theorem zero_rep {w : World} {S : Nat → Prop} {φ : Phi} {v : Value} {z : List AV} (h : ofCells v.cells.toList = some z) : Reps w S φ z v.cells ∧ z.all AV.one = true := by
  obtain ⟨h1, h2⟩ := ofCells_rep (w := w) (S := S) (φ := φ) h
  exact ⟨by simpa using h1, by rw [List.all_eq_true]; exact h2⟩

/-- How an operation goes on. -/
def OpOK (P : Program) (o : Oper) (a : Act) (w : World) (R : Value → World → Prop) : Prop :=
  (∃ vv w', (execOp a.eval o).run P w = .ok (.value vv) w' ∧ R vv w') ∨
  (∃ w', (execOp a.eval o).run P w = .ok .skip w' ∧ R undef w') ∨
  (∃ f args w', (execOp a.eval o).run P w = .ok (.enter f args) w' ∧ Calls P f args w' fun e w'' => ∃ v, e = .returned v ∧ R v w'')
theorem opOK_value {P : Program} {o : Oper} {a : Act} {w w' : World} {R : Value → World → Prop} {s : Sem Value} {vv : Value} (hx : execOp a.eval o = (do pure (.value (← s)))) (hr : s.run P w = .ok vv w') (h : R vv w') : OpOK P o a w R :=
  .inl ⟨vv, w', by rw [hx, Sem.run_bind, hr]; rfl, h⟩
theorem opOK_skip {P : Program} {o : Oper} {a : Act} {w w' : World} {R : Value → World → Prop} {s : Sem Unit} (hx : execOp a.eval o = (do s; pure .skip)) (hr : s.run P w = .ok () w') (h : R undef w') : OpOK P o a w R :=
  .inr (.inl ⟨w', by rw [hx, Sem.run_bind, hr]; rfl, h⟩)

theorem ptr_new {w : World} {S : Nat → Prop} {φ : Phi} {nx g sz : Nat} (h : φ nx = some ⟨g, 0, sz⟩) : Rep w S φ (.ptr nx 0 0) (.pointer (some ⟨g, 0, none⟩)) := by
  have := Rep.ptr (w := w) (S := S) (i := 0) (j := 0) h
  simpa using this
theorem shape_new (w : World) (c : Array Value) (e : TypeId) : (w.alloc (.cells c e)).shape? w.heap.size = some (e, c.size) := by
  unfold World.shape?; rw [World.alloc_heap_new]
theorem own_new {w : World} {S : Nat → Prop} {φ : Phi} {nx g sz len cap n : Nat} {e : TypeId} (h : φ nx = some ⟨g, 0, sz⟩) (hsh : w.shape? g = some (e, n)) (hn : cap * sz ≤ n) (hl : len ≤ cap) : Rep w S φ (.own nx 0 len) (.slice (some ⟨g, 0, none⟩) len cap) := by
  have := Rep.own (w := w) (S := S) (off := 0) (len := len) (cap := cap) h hsh (by simpa using hn) hl
  simpa using this

section ops
variable {P : Program} {S : Nat → Prop} {φ : Phi} {h : Mem} {H : Heap} {w : World} {env : List AV} {a : Act} {o : Oper} {nx : Nat}

theorem snd_mv {x : Operand} {ar : Arg} (ho : execOp a.eval o = pure (.value (a.eval x))) (hx : cOpd x = some ar) (hs : Sim P S φ h w) (hr : Reps w S φ env a.tmps) : OpOK P o a w (Ends P S φ h w (arg env ar) [] nx nx) :=
  .inl ⟨_, w, by rw [ho]; rfl, ends_pure hs (arg_rep hr hx)⟩
theorem snd_pick {c x y : Operand} {ac ax ay : Arg} {b : Bool} (ho : o.op = .pick c x y) (hc : cOpd c = some ac) (hx : cOpd x = some ax) (hy : cOpd y = some ay) (hb : arg env ac = .bool b) (hs : Sim P S φ h w) (hr : Reps w S φ env a.tmps) :
    OpOK P o a w (Ends P S φ h w (if b then arg env ax else arg env ay) [] nx nx) := by
  have e1 := arg_rep hr hc
  rw [hb] at e1
  have e1 := e1.inv_bool
  refine .inl ⟨if b then a.eval x else a.eval y, w, ?_, ends_pure hs ?_⟩
  · unfold execOp
    simp only [ho, e1, asBool]
    cases b <;> rfl
  · cases b
    · exact arg_rep hr hy
    · exact arg_rep hr hx
theorem snd_new {e : TypeId} {z : List AV} (ho : o.op = .alloc e) (hz : zeroK P e = some z) (hs : Sim P S φ h w) (hn : φ nx = none) :
    OpOK P o a w (Ends P S φ h w (.ptr nx 0 0) [(nx, some (.row z.length [z]))] nx (nx + 1)) := by
  obtain ⟨i, v, h1, h2, h3⟩ := zeroK_spec hz
  obtain ⟨r1, r2⟩ := zero_rep (w := w) (S := S) (φ := φ) h3
  obtain ⟨q1, q2⟩ := new_ends (nx := nx) (sz := z.length) (xs := [z]) (c := v.cells) (e := e) hs hn (by simp) (by simp [r1.1]) (by simpa using r2) (by
    intro i j x b e1 e2
    cases i with
    | zero => simp at e1; subst e1; simpa using r1.get e2
    | succ i => simp at e1)
  refine opOK_value (s := Instr.alloc e true (.tuple #[])) (vv := .pointer (some ⟨w.heap.size, 0, none⟩)) (w' := w.alloc (.cells v.cells e)) ?_ ?_ ⟨S, _, q1, q2, ?_, ?_⟩
  · unfold execOp; simp only [ho]
  · simp [Instr.alloc, zeroValue, typeInfo, h1, h2, newVar, newRow]
  · exact ptr_new (sz := z.length) (by simp)
  · intro id hid; have : id ≠ nx := by omega
    simp [this]
theorem snd_box {e : TypeId} {x : Operand} {ax : Arg} (ho : o.op = .box e x) (hx : cOpd x = some ax) (h1 : (arg env ax).cells.all AV.one = true) (hs : Sim P S φ h w) (hr : Reps w S φ env a.tmps) (hn : φ nx = none) :
    OpOK P o a w (Ends P S φ h w (.ptr nx 0 0) [(nx, some (.row (arg env ax).cells.length [(arg env ax).cells]))] nx (nx + 1)) := by
  have r1 := cells_rep (arg_rep hr hx)
  obtain ⟨q1, q2⟩ := new_ends (nx := nx) (sz := (arg env ax).cells.length) (xs := [(arg env ax).cells]) (c := (a.eval x).cells) (e := e) hs hn (by simp) (by simp [r1.1]) (by simpa using h1) (by
    intro i j y b e1 e2
    cases i with
    | zero => simp at e1; subst e1; simpa using r1.get e2
    | succ i => simp at e1)
  refine opOK_value (s := Instr.box e (a.eval x)) (vv := .pointer (some ⟨w.heap.size, 0, none⟩)) (w' := w.alloc (.cells (a.eval x).cells e)) ?_ ?_ ⟨S, _, q1, q2, ?_, ?_⟩
  · unfold execOp; simp only [ho]
  · simp [Instr.box, newVar, newRow]
  · exact ptr_new (sz := (arg env ax).cells.length) (by simp)
  · intro id hid; have : id ≠ nx := by omega
    simp [this]
theorem allSized_places : ∀ {fs : List Field}, allSized P fs = true → ∃ places, fs.mapM (fun f => (P.info? f.type).map fun i => (f.offset, i.size)) = some places ∧ ∀ i : Nat, places[i]? = (fs[i]?).bind fun (f : Field) => (sizeK P f.type).map fun s => (f.offset, s)
  | [], _ => ⟨[], rfl, by simp⟩
  | f :: fs, h => by
    simp only [allSized, List.all_cons, Bool.and_eq_true] at h
    obtain ⟨places, h1, h2⟩ := allSized_places (fs := fs) h.2
    cases hi : P.info? f.type with
    | none => simp [sizeK, hi] at h
    | some i =>
      refine ⟨(f.offset, i.size) :: places, by simp [hi, h1], fun k => ?_⟩
      cases k with
      | zero => simp [sizeK, hi]
      | succ k => simp [h2]
theorem snd_build {t : TypeId} {ps : Array (Nat × Operand)} {d : TypeDesc} {z cs : List AV} {ps' : List (Nat × Nat × Arg)} (ho : o.op = .build t ps) (hd : P.underlying t = some d) (hz : zeroK P t = some z)
    (hg : partsOK P d = true) (hps : cParts P d ps.toList = some ps') (hf : fillA env ps' z = some cs) (hs : Sim P S φ h w) (hr : Reps w S φ env a.tmps) :
    OpOK P o a w (Ends P S φ h w (.agg cs) [] nx nx) := by
  obtain ⟨i, v, h1, h2, h3⟩ := zeroK_spec hz
  obtain ⟨r1, r2⟩ := zero_rep (w := w) (S := S) (φ := φ) h3
  have key : ∃ place : Nat → Option (Nat × Nat), (∀ i, place i = placesK P d i) ∧ ∀ parts, P.built t parts = Instr.fill place v.cells parts := by
    cases d with
    | struct fs =>
      simp only [partsOK] at hg
      obtain ⟨places, g1, g2⟩ := allSized_places hg
      refine ⟨(places.toArray[·]?), fun i => ?_, fun parts => ?_⟩
      · simp only [List.getElem?_toArray, g2, placesK, Array.getElem?_toList]
      · simp only [Program.built, h1, hd, h2, g1]
    | array n e =>
      simp only [partsOK] at hg
      obtain ⟨s, hse⟩ := Option.isSome_iff_exists.1 hg
      obtain ⟨ie, g1, g2⟩ := sizeK_spec hse
      refine ⟨fun i => some (i * ie.size, ie.size), fun i => ?_, fun parts => ?_⟩
      · simp only [placesK, hse, g2]; rfl
      · simp only [Program.built, h1, hd, h2, g1]
    | _ => simp [partsOK] at hg
  obtain ⟨place, hpl, hbt⟩ := key
  obtain ⟨cc, g1, g2⟩ := fill_rep hr hpl ps.toList ps' z cs v.cells hps r1 hf
  have hrun := run_build (P := P) w t (ps.map fun p => (p.1, a.eval p.2)) cc (by rw [hbt, Array.toList_map]; exact g1)
  refine opOK_value (s := Instr.build t (ps.map fun p => (p.1, a.eval p.2))) ?_ hrun (ends_pure hs (.agg g2.1 g2.2))
  unfold execOp; simp only [ho]
end ops
end Go.V
