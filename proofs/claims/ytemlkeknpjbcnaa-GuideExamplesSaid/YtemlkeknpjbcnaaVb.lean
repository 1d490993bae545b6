/- The evaluator: how it runs. -/
import Derived.Test.YtemlkeknpjbcnaaVa
set_option linter.unusedVariables false
set_option linter.unusedSimpArgs false
namespace Go.V
open Go.RowKit

/-! Memory -/
structure Heap where
  l : List (Option Blk)
  nx : Nat
  deriving Inhabited
def noH : Heap := ⟨[], 0⟩
def hget (H : Heap) (id : Nat) : Option Blk :=
  match H.l[id]? with
  | some (some b) => some b
  | _ => none
def hsetL : List (Option Blk) → Nat → Option Blk → List (Option Blk)
  | [], 0, b => [b]
  | [], n + 1, b => none :: hsetL [] n b
  | _ :: H, 0, b => b :: H
  | x :: H, n + 1, b => x :: hsetL H n b
abbrev Wr := List (Nat × Option Blk)
def wrL (l : List (Option Blk)) (wr : Wr) : List (Option Blk) := wr.foldl (fun l p => hsetL l p.1 p.2) l
def wrH (H : Heap) (wr : Wr) (nx : Nat) : Heap := ⟨wrL H.l wr, max H.nx nx⟩

def undefA : AV := .tup []
def arg (env : List AV) : Arg → AV
  | .t n => env.getD n undefA
  | .c v => v
def AV.cells : AV → List AV
  | .agg cs => cs
  | v => [v]
/-- So many cells of an element, from a place on: an aggregate, or the one cell. -/
def part (n : Option Nat) (x : List AV) (j : Nat) : Option AV :=
  match n with
  | none => x[j]?
  | some n => if j + n ≤ x.length then some (.agg ((x.drop j).take n)) else none
def put (x : List AV) (j : Nat) (cs : List AV) : Option (List AV) := if j + cs.length ≤ x.length then some (x.take j ++ cs ++ x.drop (j + cs.length)) else none
def fillA (env : List AV) : List (Nat × Nat × Arg) → List AV → Option (List AV)
  | [], cs => some cs
  | (off, size, x) :: ps, cs => if (arg env x).cells.length = size ∧ (arg env x).cells.all AV.one = true then (put cs off (arg env x).cells).bind (fillA env ps) else none
def fillS (env : List AV) (sz : Nat) : List (Nat × Arg) → List (List AV) → Option (List (List AV))
  | [], xs => some xs
  | (i, x) :: ps, xs => if (arg env x).cells.length = sz ∧ (arg env x).cells.all AV.one = true ∧ i < xs.length then fillS env sz ps (xs.set i (arg env x).cells) else none
/-- What a slice holds. -/
def elems (H : Heap) (sz : Nat) : AV → Option (List (List AV) × List Nat)
  | .nilS => some ([], [])
  | .emp _ => some ([], [])
  | .lst s xs => if s = sz then some (xs, []) else none
  | .own id off len =>
    match hget H id with
    | some (.row s xs) => if s = sz ∧ off + len ≤ xs.length then some ((xs.drop off).take len, [id]) else none
    | _ => none
  | _ => none
/-- Equal: of a truth, or of a number. -/
def eqA (k : Bool) : AV → AV → Option Bool
  | .int i a, .int i' b => if k = false ∧ i = i' then some (a == b) else none
  | .bool a, .bool b => if k = true then some (a == b) else none
  | _, _ => none
def eqL : List Bool → List AV → List AV → Option Bool
  | [], [], [] => some true
  | k :: ks, a :: as, b :: bs => match eqA k a b with
    | some true => eqL ks as bs
    | some false => some false
    | none => none
  | _, _, _ => none
def binA (op : BinOp) : AV → AV → Option AV
  | .int k a, .int k' b =>
    match op with
    | .shl => if 0 ≤ b then some (.int k (k.wrap (a * 2 ^ min b.toNat k.bits))) else none
    | .shr => if 0 ≤ b then some (.int k (a.fdiv (2 ^ min b.toNat k.bits))) else none
    | _ => if k = k' then
        match op with
        | .add => some (.int k (k.wrap (a + b)))
        | .sub => some (.int k (k.wrap (a - b)))
        | .mul => some (.int k (k.wrap (a * b)))
        | .quo => if b = 0 then none else some (.int k (k.wrap (a.tdiv b)))
        | .rem => if b = 0 then none else some (.int k (a.tmod b))
        | .eql => some (.bool (a == b))
        | .neq => some (.bool (a != b))
        | .lss => some (.bool (decide (a < b)))
        | .leq => some (.bool (decide (a ≤ b)))
        | .gtr => some (.bool (decide (a > b)))
        | .geq => some (.bool (decide (a ≥ b)))
        | _ => none
      else none
  | _, _ => none
def unA (op : UnOp) : AV → Option AV
  | .bool b => match op with
    | .not => some (.bool !b)
    | _ => none
  | .int k n => match op with
    | .neg => some (.int k (k.wrap (0 - n)))
    | _ => none
  | _ => none
def idx : AV → Nat → Option Nat
  | .int _ i, n => if 0 ≤ i ∧ i < n then some i.toNat else none
  | _, _ => none
/-- A bound of a slice. -/
def bnd (env : List AV) (d most : Nat) : Option Arg → Option Nat
  | none => some d
  | some x => match arg env x with
    | .int _ i => if 0 ≤ i ∧ i ≤ most then some i.toNat else none
    | _ => none
def mxA (max : Bool) : AV → AV → Option AV
  | .int k x, .int _ y => some (.int k (if max then (if y > x then y else x) else (if y < x then y else x)))
  | _, _ => none
def mxL (max : Bool) : AV → List AV → Option AV
  | x, [] => some x
  | x, y :: ys => (mxA max x y).bind fun z => mxL max z ys

/-! Calls: arguments as they may be read; results as nobody else knows them. -/
/-- No memory at all. -/
def AV.flat1 : AV → Bool
  | .int .. | .bool _ | .str _ | .nilS | .nilP | .nilF => true
  | _ => false
def AV.flat : AV → Bool
  | .agg cs => cs.all AV.flat1
  | v => v.flat1
/-- No place of the evaluator's memory is named. -/
def AV.noId : AV → Bool
  | .int .. | .bool _ | .str _ | .lst .. | .ptrL .. | .emp _ | .nilS | .nilP | .nilF => true
  | .fn _ a b => a.all AV.flat && b.all AV.flat
  | _ => false
def reifyW (f : AV → Option (AV × List Nat)) : List AV → Option (List AV × List Nat)
  | [] => some ([], [])
  | v :: vs => match f v, reifyW f vs with
    | some (a, r), some (as, rs) => some (a :: as, r ++ rs)
    | _, _ => none
def reifyWW (f : AV → Option (AV × List Nat)) : List (List AV) → Option (List (List AV) × List Nat)
  | [] => some ([], [])
  | x :: xs => match reifyW f x, reifyWW f xs with
    | some (a, r), some (as, rs) => some (a :: as, r ++ rs)
    | _, _ => none
def reifyD (H : Heap) : Nat → AV → Option (AV × List Nat)
  | 0, v => if v.noId then some (v, []) else none
  | d + 1, v => match v with
    | .own _ _ 0 => some (.emp false, [])
    | .own id off len =>
      match hget H id with
      | some (.row s xs) => if off + len ≤ xs.length then (reifyWW (reifyD H d) ((xs.drop off).take len)).map fun p => (.lst s p.1, id :: p.2) else none
      | _ => none
    | v => if v.noId then some (v, []) else none
def reifyC (H : Heap) (v : AV) : Option (AV × List Nat) := reifyD H 4 v
def reifyL (H : Heap) : List AV → Option (List AV × List Nat)
  | [] => some ([], [])
  | v :: vs => match reifyC H v, reifyL H vs with
    | some (a, r), some (as, rs) => some (a :: as, r ++ rs)
    | _, _ => none
def reify (H : Heap) : AV → Option (AV × List Nat)
  | .agg cs => (reifyL H cs).map fun p => (.agg p.1, p.2)
  | v => reifyC H v
def reifyArgs (H : Heap) : List AV → Option (List AV × List Nat)
  | [] => some ([], [])
  | v :: vs => match reify H v, reifyArgs H vs with
    | some (a, r), some (as, rs) => some (a :: as, r ++ rs)
    | _, _ => none
/-- A result's cell, as nobody else knows it; the blocks that it is of. -/
def detachC (H : Heap) : AV → Option (AV × List Nat)
  | .own id off len =>
    match hget H id with
    | some (.row s xs) => if off + len ≤ xs.length ∧ (((xs.drop off).take len).all (fun x => x.all AV.noId)) = true then some (.fresh s ((xs.drop off).take len), [id]) else none
    | _ => none
  | v => if v.noId then some (v, []) else none
def detachL (H : Heap) : List AV → Option (List AV × List Nat)
  | [] => some ([], [])
  | v :: vs => match detachC H v, detachL H vs with
    | some (a, r), some (as, rs) => some (a :: as, r ++ rs)
    | _, _ => none
def detach1 (H : Heap) : AV → Option (AV × List Nat)
  | .agg cs => (detachL H cs).map fun p => (.agg p.1, p.2)
  | v => detachC H v
def detachM (H : Heap) : List AV → Option (List AV × List Nat)
  | [] => some ([], [])
  | v :: vs => match detach1 H v, detachM H vs with
    | some (a, r), some (as, rs) => some (a :: as, r ++ rs)
    | _, _ => none
def detach (H : Heap) : AV → Option (AV × List Nat)
  | .tup cs => (detachM H cs).map fun p => (.tup p.1, p.2)
  | v => detach1 H v
def attachC (nx : Nat) : AV → AV × Wr × Nat
  | .fresh s xs => (.own nx 0 xs.length, [(nx, some (.row s xs))], nx + 1)
  | v => (v, [], nx)
def attachL (nx : Nat) : List AV → List AV × Wr × Nat
  | [] => ([], [], nx)
  | v :: vs =>
    let p := attachC nx v
    let q := attachL p.2.2 vs
    (p.1 :: q.1, p.2.1 ++ q.2.1, q.2.2)
def attach1 (nx : Nat) : AV → AV × Wr × Nat
  | .agg cs => let p := attachL nx cs; (.agg p.1, p.2.1, p.2.2)
  | v => attachC nx v
def attachM (nx : Nat) : List AV → List AV × Wr × Nat
  | [] => ([], [], nx)
  | v :: vs =>
    let p := attach1 nx v
    let q := attachM p.2.2 vs
    (p.1 :: q.1, p.2.1 ++ q.2.1, q.2.2)
def attach (nx : Nat) : AV → AV × Wr × Nat
  | .tup cs => let p := attachM nx cs; (.tup p.1, p.2.1, p.2.2)
  | v => attach1 nx v
def hasLstL : List AV → Bool
  | [] => false
  | .lst .. :: _ | .ptrL .. :: _ => true
  | _ :: cs => hasLstL cs
def AV.hasLst0 : AV → Bool
  | .lst .. | .ptrL .. => true
  | .fresh _ xs => xs.any hasLstL
  | _ => false
def AV.hasLst1 : AV → Bool
  | .agg cs => cs.any AV.hasLst0
  | v => v.hasLst0
def AV.hasLst : AV → Bool
  | .tup vs => vs.any AV.hasLst1
  | v => v.hasLst1

inductive OpR where
  | eff (v : AV) (rd : List Nat) (wr : Wr) (nx : Nat)
  | whole (v : AV) (H : Heap)
/-- What is called: a function; a function on arguments that name none of the evaluator's memory, its result nobody else's; a round of a loop. -/
inductive Cal where
  | fn (f : FuncId)
  | pu (f : FuncId)
  | yl (id : Nat)
abbrev Cb := Cal → List AV → Heap → Option (AV × Heap)
def callOp (T : FuncId → Option IFn) (cb : Cb) (f : FuncId) (args : List AV) (H : Heap) (nx : Nat) : Option OpR :=
  match T f with
  | none => none
  | some fn =>
    if fn.byref then (cb (.fn f) args H).map fun p => .whole p.1 p.2
    else match reifyArgs H args with
      | some (args', rd) =>
        match cb (.pu f) args' noH with
        | some (t, _) => if rd = [] ∨ t.hasLst = false then let p := attach nx t; some (.eff p.1 rd p.2.1 p.2.2) else none
        | none => none
      | none => none
def evalOp (T : FuncId → Option IFn) (cb : Cb) (env : List AV) (H : Heap) (nx : Nat) : PO → Option OpR
  | .mv x => some (.eff (arg env x) [] [] nx)
  | .pick c a b => match arg env c with
    | .bool c => some (.eff (if c then arg env a else arg env b) [] [] nx)
    | _ => none
  | .new cells => if cells.all AV.one then some (.eff (.ptr nx 0 0) [] [(nx, some (.row cells.length [cells]))] (nx + 1)) else none
  | .box x => let cs := (arg env x).cells; if cs.all AV.one then some (.eff (.ptr nx 0 0) [] [(nx, some (.row cs.length [cs]))] (nx + 1)) else none
  | .build zero parts => (fillA env parts zero).map fun cs => .eff (.agg cs) [] [] nx
  | .buildS sz n zero parts => if n * sz ≤ 16777216 ∧ zero.length = sz ∧ zero.all AV.one = true then
      (fillS env sz parts (List.replicate n zero)).map fun xs => .eff (.own nx 0 n) [] [(nx, some (.row sz xs))] (nx + 1) else none
  | .load n x => match arg env x with
    | .ptr id i j => match hget H id with
      | some (.row _ xs) => (xs[i]?).bind fun x => (part n x j).map fun v => .eff v [id] [] nx
      | _ => none
    | .ptrL _ xs i j => (xs[i]?).bind fun x => (part n x j).map fun v => .eff v [] [] nx
    | _ => none
  | .store n x y => match arg env x with
    | .ptr id i j => match hget H id with
      | some (.row s xs) =>
        let cs := (arg env y).cells
        if cs.length = n ∧ cs.all AV.one = true then (xs[i]?).bind fun x => (put x j cs).map fun x' => .eff undefA [id] [(id, some (.row s (xs.set i x')))] nx else none
      | _ => none
    | _ => none
  | .fieldA off x => match arg env x with
    | .ptr id i j => some (.eff (.ptr id i (j + off)) [] [] nx)
    | .ptrL s xs i j => some (.eff (.ptrL s xs i (j + off)) [] [] nx)
    | _ => none
  | .indexS sz x i => match arg env x with
    | .lst s xs => if s = sz then (idx (arg env i) xs.length).map fun i => .eff (.ptrL s xs i 0) [] [] nx else none
    | .own id off len => match hget H id with
      | some (.row s xs) => if s = sz then (idx (arg env i) len).map fun i => .eff (.ptr id (off + i) 0) [id] [] nx else none
      | _ => none
    | _ => none
  | .indexA len sz x i => match arg env x with
    | .ptr id a j => (idx (arg env i) len).map fun i => .eff (.ptr id a (j + i * sz)) [] [] nx
    | .ptrL s xs a j => (idx (arg env i) len).map fun i => .eff (.ptrL s xs a (j + i * sz)) [] [] nx
    | _ => none
  | .field n off x => match arg env x with
    | .agg cs => (part n cs off).map fun v => .eff v [] [] nx
    | _ => none
  | .indexV len n sz x i => match arg env x with
    | .agg cs => (idx (arg env i) len).bind fun i => (part n cs (i * sz)).map fun v => .eff v [] [] nx
    | _ => none
  | .bin op x y => (binA op (arg env x) (arg env y)).map fun v => .eff v [] [] nx
  | .eqv neg true ks x y => match arg env x, arg env y with
    | .agg cs, .agg ds => (eqL ks cs ds).map fun b => .eff (.bool (if neg then !b else b)) [] [] nx
    | _, _ => none
  | .eqv neg false ks x y => (eqL ks [arg env x] [arg env y]).map fun b => .eff (.bool (if neg then !b else b)) [] [] nx
  | .bad => none
  | .un op x => (unA op (arg env x)).map fun v => .eff v [] [] nx
  | .conv k x => match arg env x with
    | .int _ n => some (.eff (.int k (k.wrap n)) [] [] nx)
    | _ => none
  | .mkS sz bytes zero l c => match arg env l, arg env c with
    | .int _ l, .int _ c => if 0 ≤ l ∧ l ≤ c ∧ (c + 1) * (bytes + 1) ≤ 1099511627776 ∧ zero.length = sz ∧ zero.all AV.one = true then some (.eff (.own nx 0 l.toNat) [] [(nx, some (.row sz (List.replicate c.toNat zero)))] (nx + 1)) else none
    | _, _ => none
  | .sl sz x lo hi => match arg env x with
    | .lst s xs => if s = sz then (bnd env xs.length xs.length hi).bind fun h => (bnd env 0 h lo).map fun l => .eff (if l = 0 ∨ l < h then .lst s ((xs.drop l).take (h - l)) else .emp false) [] [] nx else none
    | .own id off len => match hget H id with
      | some (.row s xs) => if s = sz then (bnd env len len hi).bind fun h => (bnd env 0 h lo).map fun l => .eff (if l = 0 ∨ l < h then .own id (off + l) (h - l) else .emp false) [id] [] nx else none
      | _ => none
    | .emp z => (bnd env 0 0 hi).bind fun h => (bnd env 0 h lo).map fun l => .eff (.emp z) [] [] nx
    | .nilS => (bnd env 0 0 hi).bind fun h => (bnd env 0 h lo).map fun l => .eff .nilS [] [] nx
    | _ => none
  | .sl3 sz x lo hi mx => match arg env x with
    | .lst s xs => if s = sz then (bnd env 0 xs.length (some mx)).bind fun m => (bnd env 0 m (some hi)).bind fun h => (bnd env 0 h lo).map fun l =>
        .eff (if xs.isEmpty then .lst s [] else if l < h then .lst s ((xs.drop l).take (h - l)) else .emp (m == l)) [] [] nx else none
    | .own id off len => match hget H id with
      | some (.row s xs) => if s = sz then (bnd env 0 len (some mx)).bind fun m => (bnd env 0 m (some hi)).bind fun h => (bnd env 0 h lo).map fun l =>
          .eff (if l < h then .own id (off + l) (h - l) else .emp (m == l)) [id] [] nx else none
      | _ => none
    | .emp _ => (bnd env 0 0 (some mx)).bind fun m => (bnd env 0 m (some hi)).bind fun h => (bnd env 0 h lo).map fun l => .eff (.emp true) [] [] nx
    | .nilS => (bnd env 0 0 (some mx)).bind fun m => (bnd env 0 m (some hi)).bind fun h => (bnd env 0 h lo).map fun l => .eff .nilS [] [] nx
    | _ => none
  | .ext x i => match arg env x with
    | .tup vs => (vs[i]?).map fun v => .eff v [] [] nx
    | _ => none
  | .mkF f first caps => some (.eff (.fn f (first.map (arg env)) (caps.map (arg env))) [] [] nx)
  | .call f args => callOp T cb f (args.map (arg env)) H nx
  | .callv g args => match arg env g with
    | .fn f first caps => callOp T cb f (first ++ args.map (arg env) ++ caps) H nx
    | .yld id => (cb (.yl id) (args.map (arg env)) H).map fun p => .whole p.1 p.2
    | _ => none
  | .lenS x => match arg env x with
    | .lst _ xs => some (.eff (.int .i64 xs.length) [] [] nx)
    | .own _ _ len => some (.eff (.int .i64 len) [] [] nx)
    | .nilS | .emp _ => some (.eff (.int .i64 0) [] [] nx)
    | _ => none
  | .capS x => match arg env x with
    | .nilS | .emp true => some (.eff (.int .i64 0) [] [] nx)
    | _ => none
  | .isNil neg x => match arg env x with
    | .nilS => some (.eff (.bool !neg) [] [] nx)
    | .own .. | .emp _ | .lst _ (_ :: _) => some (.eff (.bool neg) [] [] nx)
    | _ => none
  | .clr sz zero x => match arg env x with
    | .nilS | .emp _ => some (.eff undefA [] [] nx)
    | .own id off len => match hget H id with
      | some (.row s xs) => if s = sz ∧ off + len ≤ xs.length ∧ zero.all AV.one = true then some (.eff undefA [id] [(id, some (.row s (xs.take off ++ List.replicate len zero ++ xs.drop (off + len))))] nx) else none
      | _ => none
    | _ => none
  | .lenC n => some (.eff (.int .i64 n) [] [] nx)
  | .app sz bytes x y => match elems H sz (arg env y) with
    | some ([], rd) => match arg env x with
      | .nilS => some (.eff .nilS rd [] nx)
      | .own id off len => some (.eff (.own id off len) rd [] nx)
      | .emp z => some (.eff (.emp z) rd [] nx)
      | _ => none
    | some (ys, rd) => match arg env x with
      | .nilS | .emp true => if (ys.length + 1) * (bytes + 1) ≤ 1099511627776 then some (.eff (.own nx 0 ys.length) rd [(nx, some (.row sz ys))] (nx + 1)) else none
      | .own id off len => match hget H id with
        | some (.row s xs) => if s = sz ∧ off + len ≤ xs.length ∧ (len + ys.length + 1) * (bytes + 1) ≤ 1099511627776 then
            some (.eff (.own nx 0 (len + ys.length)) (id :: rd) [(id, none), (nx, some (.row sz ((xs.drop off).take len ++ ys)))] (nx + 1)) else none
        | _ => none
      | _ => none
    | none => none
  | .appZ sz bytes zero x n => match arg env n with
    | .int _ 0 => match arg env x with
      | .nilS => some (.eff .nilS [] [] nx)
      | .own id off len => some (.eff (.own id off len) [] [] nx)
      | .emp z => some (.eff (.emp z) [] [] nx)
      | _ => none
    | .int _ n => if 0 ≤ n ∧ zero.length = sz ∧ zero.all AV.one = true then match arg env x with
      | .nilS | .emp true => if (n + 1) * (bytes + 1) ≤ 1099511627776 then some (.eff (.own nx 0 n.toNat) [] [(nx, some (.row sz (List.replicate n.toNat zero)))] (nx + 1)) else none
      | _ => none
      else none
    | _ => none
  | .mx max xs => match xs with
    | [] => none
    | x :: xs => (mxL max (arg env x) (xs.map (arg env))).map fun v => .eff v [] [] nx

structure St where
  env : List AV
  H : Heap
def setD (env : List AV) (dst : Option Nat) (v : AV) : List AV :=
  match dst with
  | some d => env.set d v
  | none => env
def wantedA (env : List AV) : Option (Nat × Bool) → Bool
  | none => true
  | some (j, want) => match env.getD j undefA with
    | .bool b => b == want
    | _ => false
def evalOps (T : FuncId → Option IFn) (cb : Cb) : List IOp → St → Option St
  | [], st => some st
  | o :: os, st =>
    if wantedA st.env o.guard then
      match evalOp T cb st.env st.H st.H.nx o.op with
      | some (.eff v _ wr nx) => evalOps T cb os ⟨setD st.env o.dst v, wrH st.H wr nx⟩
      | some (.whole v H) => evalOps T cb os ⟨setD st.env o.dst v, H⟩
      | none => none
    else evalOps T cb os ⟨setD st.env o.dst undefA, st.H⟩
/-- What an operation touched. -/
structure Foot where
  rd : List Nat
  wr : List Nat
def clash (a b : Foot) : Bool := a.wr.any (fun i => b.rd.contains i || b.wr.contains i) || b.wr.any (fun i => a.rd.contains i)
/-- Whether a new footprint may stand behind those that are there (the newest first, with their number). -/
def footOK (f : Foot) (bef : Nat) : Nat → List Foot → Bool
  | _, [] => true
  | 0, _ :: _ => false
  | n + 1, g :: gs => (bef.testBit n || !clash g f) && footOK f bef n gs
def evalDraw (T : FuncId → Option IFn) (cb : Cb) : List IOp → Nat → List Foot → St → Option St
  | [], _, _, st => some st
  | o :: os, n, fs, st =>
    if wantedA st.env o.guard then
      match evalOp T cb st.env st.H st.H.nx o.op with
      | some (.eff v rd wr nx) => let f : Foot := ⟨rd, wr.map (·.1)⟩; if footOK f o.bef n fs then evalDraw T cb os (n + 1) (f :: fs) ⟨setD st.env o.dst v, wrH st.H wr nx⟩ else none
      | _ => none
    else evalDraw T cb os (n + 1) (⟨[], []⟩ :: fs) ⟨setD st.env o.dst undefA, st.H⟩
/-- The state of a run: with the marks that loops over functions left. -/
structure RSt where
  st : St
  ds : List Nat
def iter (f : RSt → Option (Ex × RSt)) : Nat → RSt → Option (Ex × RSt)
  | 0, _ => none
  | n + 1, st => match f st with
    | some (.normal, st') => iter f n st'
    | r => r
/-- A loop over a function begins: its record, and, unless it stands in a round, the mark. -/
def enterH (rd : Option Nat) (H : Heap) (env : List AV) (ps : List Nat) (a b : IC) : Option (Heap × Nat × List Nat) :=
  match rd with
  | none => some (wrH H [(H.nx, some .mark), (H.nx + 1, some (.loop env ps a b .ready .normal H.nx))] (H.nx + 2), H.nx + 1, [H.nx])
  | some l => match hget H l with
    | some (.loop _ _ _ _ _ _ d) => some (wrH H [(H.nx, some (.loop env ps a b .ready .normal d))] (H.nx + 1), H.nx, [])
    | _ => none
def leaveH (env : List AV) (H : Heap) (id : Nat) (ds : List Nat) : Option (Ex × RSt) :=
  match hget H id with
  | some (.loop _ _ _ _ .busy _ _) => none
  | some (.loop _ _ _ _ _ pend _) => some (pend, ⟨⟨env, wrH H [(id, none)] 0⟩, ds⟩)
  | _ => none
def run (T : FuncId → Option IFn) (cb : Cb) (m : Nat) (rd : Option Nat) : IC → RSt → Option (Ex × RSt)
  | .skip, st => some (.normal, st)
  | .region ops draw, st => (if draw then evalDraw T cb ops 0 [] st.st else evalOps T cb ops st.st).map fun s => (.normal, ⟨s, st.ds⟩)
  | .seq a b, st => match run T cb m rd a st with
    | some (.normal, st') => run T cb m rd b st'
    | r => r
  | .cond c a b, st => match arg st.st.env c with
    | .bool true => run T cb m rd a st
    | .bool false => run T cb m rd b st
    | _ => none
  | .block id c, st => match run T cb m rd c st with
    | some (.exit id', st') => if id' = id then some (.normal, st') else some (.exit id', st')
    | r => r
  | .loop c, st => iter (run T cb m rd c) m st
  | .exit id, st => some (.exit id, st)
  | .ret, st => some (.ret, st)
  | .scope c, st => run T cb m rd c st
  | .rangeF g ps a b, st => match arg st.st.env g with
    | .fn f first caps => if (T f).isSome then match enterH rd st.st.H st.st.env ps a b with
        | some (H1, id, ds) => match cb (.fn f) (first ++ [.yld id] ++ caps) H1 with
          | some (_, H2) => leaveH st.st.env H2 id (ds ++ st.ds)
          | none => none
        | none => none
      else none
    | _ => none
  | .bad, st => none
def resV (st : St) : IRes → Option AV
  | .t n => some (st.env.getD n undefA)
  | .cell n k => match st.env.getD n undefA with
    | .ptr id i j => match hget st.H id with
      | some (.row _ xs) => (xs[i]?).bind fun x => part k x j
      | _ => none
    | _ => none
def resL (st : St) : List IRes → Option (List AV)
  | [] => some []
  | r :: rs => match resV st r, resL st rs with
    | some v, some vs => some (v :: vs)
    | _, _ => none
def takeMarks : Heap → List Nat → Option Heap
  | H, [] => some H
  | H, id :: ids => match hget H id with
    | some .mark => takeMarks (wrH H [(id, none)] 0) ids
    | _ => none
def setPs : List AV → List Nat → List AV → List AV
  | env, p :: ps, v :: vs => setPs (env.set p v) ps vs
  | env, _, _ => env
def tupV : List AV → AV
  | [v] => v
  | vs => .tup vs
def leaveF (fn : IFn) (r : RSt) : Option (AV × Heap) :=
  match takeMarks r.st.H r.ds with
  | some H => (resL ⟨r.st.env, H⟩ fn.res).map fun vs => (tupV vs, H)
  | none => none
def enterR (env : List AV) (ds : List Nat) (H : Heap) (id : Nat) : Option RSt :=
  match hget H id with
  | some (.loop env' ps a b .ready pend d) => some ⟨⟨env, wrH H [(id, some (.loop env' ps a b .busy pend d))] 0⟩, ds⟩
  | _ => none
def leaveR (ex : Ex) (H : Heap) (id : Nat) : Option (AV × Heap) :=
  match hget H id with
  | some (.loop env ps a b .busy _ d) => match ex with
    | .normal => some (.bool true, wrH H [(id, some (.loop env ps a b .ready .normal d))] 0)
    | ex => some (.bool false, wrH H [(id, some (.loop env ps a b .done ex d))] 0)
  | _ => none
def callBody (T : FuncId → Option IFn) (m : Nat) (cb : Cb) (f : FuncId) (args : List AV) (H : Heap) : Option (AV × Heap) :=
  match T f with
  | none => none
  | some fn =>
    match run T cb m none fn.body ⟨⟨args ++ List.replicate (fn.ntmps - args.length) undefA, H⟩, []⟩ with
    | some (.exit _, _) => none
    | some (_, r) => leaveF fn r
    | none => none
def pureR : Option (AV × Heap) → Option (AV × Heap)
  | some (v, H) => match detach H v with
    | some (t, ids) => if ids.Nodup then some (t, noH) else none
    | none => none
  | none => none
def callRound (T : FuncId → Option IFn) (m : Nat) (cb : Cb) (id : Nat) (args : List AV) (H : Heap) : Option (AV × Heap) :=
  match hget H id with
  | some (.loop env ps a b _ _ _) => if args.length = ps.length then
      match run T cb m (some id) a ⟨⟨setPs env ps args, H⟩, []⟩ with
      | some (.normal, r) => match enterR r.st.env r.ds r.st.H id with
        | some r' => match run T cb m (some id) b r' with
          | some (ex, r'') => leaveR ex r''.st.H id
          | none => none
        | none => none
      | _ => none
    else none
  | _ => none
/-! What is known of calls already -/
def eq0 : AV → AV → Bool
  | .int k a, .int k' b => decide (k = k') && a == b
  | .bool a, .bool b => a == b
  | .nilS, .nilS | .nilP, .nilP | .nilF, .nilF => true
  | .emp a, .emp b => a == b
  | _, _ => false
def eqLs {α : Type} (f : α → α → Bool) : List α → List α → Bool
  | [], [] => true
  | a :: as, b :: bs => f a b && eqLs f as bs
  | _, _ => false
def eqD : Nat → AV → AV → Bool
  | 0, a, b => eq0 a b
  | d + 1, a, b => match a, b with
    | .agg x, .agg y => eqLs (eqD d) x y
    | .tup x, .tup y => eqLs (eqD d) x y
    | .lst s x, .lst s' y => s == s' && eqLs (eqLs (eqD d)) x y
    | .fresh s x, .fresh s' y => s == s' && eqLs (eqLs (eqD d)) x y
    | .fn f x y, .fn g x' y' => f == g && eqLs (eqD d) x x' && eqLs (eqD d) y y'
    | a, b => eq0 a b
structure Memo where
  f : FuncId
  args : List AV
  t : AV
def findM (f : FuncId) (args : List AV) : List Memo → Option AV
  | [] => none
  | k :: ks => if k.f == f && eqLs (eqD 6) k.args args then some k.t else findM f args ks
def callFn (T : FuncId → Option IFn) (m : Nat) (L : List Memo) : Nat → Cb
  | 0 => fun _ _ _ => none
  | n + 1 => fun c args H => match c with
    | .fn f => callBody T m (callFn T m L n) f args H
    | .pu f => match findM f args L with
      | some t => some (t, noH)
      | none => pureR (callBody T m (callFn T m L n) f args noH)
    | .yl id => callRound T m (callFn T m L n) id args H
end Go.V
