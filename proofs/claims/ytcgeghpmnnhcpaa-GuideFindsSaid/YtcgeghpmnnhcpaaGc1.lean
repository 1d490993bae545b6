/- Guide: near for sure, or not. -/
import Derived.Test.YtcgeghpmnnhcpaaGc0
set_option linter.unusedVariables false
set_option linter.unusedSimpArgs false
namespace Go.Q
open Go.V
abbrev U8 (n : Int) : D := .int .u8 n
/-- Memory that is not deep. -/
theorem shal0_int {n : Nat} {r : D → Bool} {k : IntKind} {i : Int} : D.shal0 n r (.int k i) = true := rfl
theorem shal1_int {n : Nat} {k : IntKind} {i : Int} : D.shal1 n (.int k i) = true := by cases n <;> rfl
theorem shal1_hfs {n : Nat} {hs : List Hf} : D.shal1 (n + 1) (hfs hs) = true := by
  simp [D.shal1, D.shal0, hfs, Hf.d, shal1_int]
theorem shal_hfs {n : Nat} {hs : List Hf} : D.shal (n + 1) (hfs hs) = true := shal1_hfs
theorem shal1_crs {n : Nat} {cs : List Cr} : D.shal1 (n + 1) (crs cs) = true := by
  simp [D.shal1, D.shal0, crs, Cr.d, shal1_int]
theorem shal_crs {n : Nat} {cs : List Cr} : D.shal (n + 1) (crs cs) = true := shal1_crs
/-- A place. -/
def plOK (x y : Int) : Bool := inR x (-10000000) 10000000 && inR y (-10000000) 10000000
def askOK (x y f : Int) : Bool := plOK x y && inR f 0 10000000
theorem e84 (x y : Int) : evL FN 84 [I x, I y] = some (.bool (plOK x y)) := by
  refine evL_of (F := F84) rfl ?_
  unfold plOK
  cases e1 : inR x (-10000000) 10000000 <;>
    simp [F84, Fn.denV, fits, T.denV, denVK, denL, E.den, D.cells, D.den1, binD, outOf, e87, e1]
def nearD (x y f : Int) : List D := [U8 3, I x, I y, I 0, I 0, I 0, I 0, I 0, I 0, I f]
theorem e51n (x y f : Int) : evL FN 51 [.node (nearD x y f)] = some (.bool (askOK x y f)) := by
  refine evL_of (F := F51) rfl ?_
  unfold askOK
  have h1 := e84 x y
  cases e1 : plOK x y <;> rw [e1] at h1 <;>
    simp [nearD, F51, Fn.denV, fits, T.denV, denVK, denL, E.den, D.cells, D.den1, binD, outOf, h1, e87]
theorem askIn {x y f : Int} (h : askOK x y f = true) : (-10000000 ≤ x ∧ x ≤ 10000000) ∧ (-10000000 ≤ y ∧ y ≤ 10000000) ∧ (0 ≤ f ∧ f ≤ 10000000) := by
  simp [askOK, plOK, inR] at h
  omega
/-- The halves of what is near. -/
def nr (x y f : Int) : List Hf := sides (x - f) (x + f) (y - f) (y + f)
theorem nrIn {x y f : Int} (h : askOK x y f = true) : ∀ k ∈ nr x y f, k.In := by
  have := askIn h
  intro k hk
  simp only [nr, sides, List.mem_cons, List.not_mem_nil, or_false] at hk
  rcases hk with rfl | rfl | rfl | rfl <;> exact ⟨by simp, by simp, by simp only; omega⟩
theorem e91 {x y f : Int} (h : askOK x y f = true) : evL FN 91 [.node (nearD x y f)] = some (hfs (nr x y f)) := by
  refine evL_of (F := F91) rfl ?_
  have hh := askIn h
  have w1 := wrapI (x := x - f) (by omega)
  have w2 := wrapI (x := x + f) (by omega)
  have w3 := wrapI (x := y - f) (by omega)
  have w4 := wrapI (x := y + f) (by omega)
  have h64 := e64 (a := x - f) (b := x + f) (c := y - f) (d := y + f) (by omega) (by omega) (by omega) (by omega)
  simp [nearD, nr, F91, Fn.denV, fits, T.denV, denVK, denL, E.den, D.cells, D.den1, binD, outOf, w1, w2, w3, w4, h64]
theorem e53n {x y f : Int} (h : askOK x y f = true) : evL FN 53 [.node (nearD x y f)] = some (hfs (nr x y f)) := by
  refine evL_of (F := F53) rfl ?_
  have h1 := e91 h
  simp only [nearD] at h1
  simp [nearD, F53, Fn.denV, fits, T.denV, denVK, denL, E.den, D.cells, D.den1, binD, outOf, h1]
theorem cap25 {n : Nat} (h : n < 1000000) : (n + 1) * 25 ≤ 1099511627776 := by omega
theorem cap25i {n : Int} (h : n < 1000000) : (n + 1) * 25 ≤ 1099511627776 := by omega
theorem den_appZ3 {n : Int} (h : 0 ≤ n) (h2 : n < 1000000) : D.den1 (.appZ 3 24 [I 0, I 0, I 0]) [I n] = some (.list (List.replicate n.toNat [I 0, I 0, I 0])) := by
  have hc : (n + 1) * ((24 : Nat) + 1) ≤ 1099511627776 := by omega
  simp only [D.den1]
  rw [if_pos ⟨h, hc, rfl⟩]
def blk52 : T := .ite (.v 5) (.op (.appZ 3 24 [.int .i64 (0), .int .i64 (0), .int .i64 (0)]) [.v 4] <|
    .op (.sl 3 false true) [.v 6, .c (.int .i64 (0))] <|
    .leaf 0) <|
   .leaf 1
theorem b52a {x0 x1 x2 x3 : D} {n : Int} {FL : FuncId → List D → Option D} (h : 0 ≤ n) (h2 : n < 1000000) (hz : 0 < n) : blk52.denV FL [x0, x1, x2, x3, I n, .bool true] = some (0, [x0, x1, x2, x3, I n, .bool true, .list (List.replicate n.toNat [I 0, I 0, I 0]), .list []]) := by
  have hA := den_appZ3 h h2
  unfold blk52
  simp only [T.denV, E.den, denL, List.getD_cons_zero, List.getD_cons_succ, if_true, List.cons_append, List.nil_append]
  rw [hA]
  simp only []
  have : D.den1 (.sl 3 false true) [.list (List.replicate n.toNat [I 0, I 0, I 0]), I 0] = some (.list []) := by
    simp [D.den1, D.upto]; omega
  simp [this, denL, E.den]
theorem b52b {x0 x1 x2 x3 : D} {n : Int} {FL : FuncId → List D → Option D} : blk52.denV FL [x0, x1, x2, x3, I n, .bool false] = some (1, [x0, x1, x2, x3, I n, .bool false]) := by
  unfold blk52
  simp [T.denV, E.den, denL]
theorem F52_eq : F52 = ⟨[none],
 .op .len [.v 0] <|
 .loop [.c (.int .i64 (0)), .c (.int .i64 (0))] (
  .op (.bin .lss) [.v 3, .v 1] <|
  .ite (.v 4) (.op (.idx 1) [.v 0, .v 3] <|
   .op (.elem 0 none) [.v 0, .v 3] <|
   .op .len [.v 6] <|
   .op (.bin .add) [.v 2, .v 7] <|
   .op (.bin .lss) [.v 8, .c (.int .i64 (0))] <|
   .ite (.v 9) (.fail) <|
   .op (.bin .add) [.v 3, .c (.int .i64 (1))] <|
   .leaf 0) <|
  .leaf 1) [([.v 8, .v 10], none), ([.v 2], some 0)] [.op (.bin .lss) [.v 2, .c (.int .i64 (0))] <|
  .ite (.v 3) (.fail) <|
  .op (.bin .sub) [.v 2, .c (.int .i64 (0))] <|
  .op (.bin .gtr) [.v 4, .c (.int .i64 (0))] <|
  .blk (blk52) [([.v 7], 0), ([.c (.list [])], 0)] [.op .len [.v 0] <|
   .loop [.c (.int .i64 (0)), .v 6] (
    .op (.bin .lss) [.v 8, .v 7] <|
    .ite (.v 10) (.op (.idx 1) [.v 0, .v 8] <|
     .op (.elem 0 none) [.v 0, .v 8] <|
     .op (.app 3 24) [.v 9, .v 12] <|
     .op (.bin .add) [.v 8, .c (.int .i64 (1))] <|
     .leaf 0) <|
    .leaf 1) [([.v 14, .v 13], none), ([.v 9], some 0)] [.leaf 0]]],
 [.v 8], .own 3⟩ := rfl
theorem den_bin {op : BinOp} {x y : D} : D.den1 (.bin op) [x, y] = binD op x y := rfl
theorem den_len {xs : List (List D)} : D.den1 .len [.list xs] = some (I xs.length) := rfl
/-- Two lists, one after the other. -/
theorem e52 (a b : List Hf) (hl : a.length + b.length < 1000000) : evL FN 52 [.list [[hfs a], [hfs b]]] = some (hfs (a ++ b)) := by
  refine evL_of (F := F52) rfl ?_
  rw [F52_eq]
  have hn : ((a.length : Int) + b.length).toNat = a.length + b.length := by omega
  have w1 := wrapI (x := (a.length : Int)) (by omega)
  have w2 := wrapI (x := (a.length : Int) + b.length) (by omega)
  have c1 : ¬ ((a.length : Int) < 0) := by omega
  have c2 : ¬ ((a.length : Int) + b.length < 0) := by omega
  have hcap : ((a.length : Int) + b.length + 1) * 25 ≤ 1099511627776 := cap25i (by omega)
  have hcap1 : (a.length + 1) * 25 ≤ 1099511627776 := cap25 (by omega)
  have hcap2 : (a.length + b.length + 1) * 25 ≤ 1099511627776 := cap25 hl
  have i0 : D.idx (.int .i64 0) 2 = some 0 := rfl
  have i1 : D.idx (.int .i64 1) 2 = some 1 := rfl
  have v1 : IntKind.i64.wrap 1 = 1 := by decide
  have v2 : IntKind.i64.wrap 2 = 2 := by decide
  have hall : ∀ l : List Hf, (l.map Hf.d).all (fun y => y.length == 3) = true := fun l => by simp [Hf.d]
  have cn : (0 : Int) ≤ a.length + b.length := by omega
  simp [Fn.denV, fits, T.denV, denVK, denL, E.den, D.cells, D.den1, binD, outOf, hfs]
  rw [iterL_eq]
  simp [i0, partD, outOf, denL, E.den, w1, c1, v1]
  rw [iterL_eq]
  simp [i1, partD, outOf, denL, E.den, w2, c2, v2]
  rw [iterL_eq]
  have cm : (a.length : Int) + b.length < 1000000 := by omega
  have key : ∀ g : List D → Option (Option Nat × List D),
      g [I 0, .list []] = some (none, [I 1, hfs a]) → g [I 1, hfs a] = some (none, [I 2, hfs (a ++ b)]) → g [I 2, hfs (a ++ b)] = some (some 0, [hfs (a ++ b)]) → iterL g [I 0, .list []] = some (0, [hfs (a ++ b)]) := by
    intro g h1 h2 h3
    rw [iterL_eq, h1]; simp only
    rw [iterL_eq, h2]; simp only
    rw [iterL_eq, h3]
  have e0 : ∀ n : Nat, D.upto (.int .i64 0) n = some 0 := fun n => by simp [D.upto]
  have hab : (a ++ b).length = a.length + b.length := List.length_append
  clear w1 c1 hcap hn
  generalize (a.length : Int) + b.length = n at *
  simp [outOf, denL, E.den, den_bin, binD]
  simp only [denVK]
  rw [T.denV]
  simp [denL, E.den, den_bin, binD, c2]
  rw [T.denV]
  simp [denL, E.den, den_bin, binD, c2]
  rw [T.denV]
  simp [denL, E.den, den_bin, binD, c2, w2]
  rw [T.denV]
  simp [denL, E.den, den_bin, binD, c2]
  rw [T.denV]
  by_cases hz : (0 : Int) < n
  · have hb := b52a (FL := evL FN) (x0 := .list [[hfs a], [hfs b]]) (x1 := I 2) (x2 := I n) (x3 := .bool false) cn cm hz
    simp only [I, hfs] at hb
    simp [hz, hb, outOf, denL, E.den, denVK]
    rw [T.denV]
    simp [denL, E.den, D.den1]
    rw [T.denV]
    simp only [denL, E.den, List.getD_cons_zero, List.getD_cons_succ]
    rw [key]
    · simp [denVK, T.denV, E.den, hfs]
    · simp [T.denV, D.den1, binD, i0, partD, outOf, denL, E.den, v1, hfs, Hf.d, hcap1]
    · simp [T.denV, D.den1, binD, i1, partD, outOf, denL, E.den, v2, hfs, Hf.d, hcap2]
    · simp [T.denV, D.den1, binD, outOf, denL, E.den, hfs]
  · have hb := b52b (FL := evL FN) (x0 := .list [[hfs a], [hfs b]]) (x1 := I 2) (x2 := I n) (x3 := .bool false) (n := n)
    simp only [I, hfs] at hb
    simp [hz, hb, outOf, denL, E.den, denVK]
    rw [T.denV]
    simp [denL, E.den, D.den1]
    rw [T.denV]
    simp only [denL, E.den, List.getD_cons_zero, List.getD_cons_succ]
    rw [key]
    · simp [denVK, T.denV, E.den, hfs]
    · simp [T.denV, D.den1, binD, i0, partD, outOf, denL, E.den, v1, hfs, Hf.d, hcap1]
    · simp [T.denV, D.den1, binD, i1, partD, outOf, denL, E.den, v2, hfs, Hf.d, hcap2]
    · simp [T.denV, D.den1, binD, outOf, denL, E.den, hfs]
end Go.Q
