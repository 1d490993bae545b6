/- WayTrue: the tree in pieces. -/
import Derived.Test.YtimbhebamjnfmaaTqW0
set_option linter.unusedVariables false
set_option linter.unusedSimpArgs false
set_option maxRecDepth 100000
namespace Go.Q
open Go.V
def tW1 : T := .op .len [.v 13] <|
   .op (.bin .lss) [.v 12, .v 14] <|
   .ite (.v 15) (.op (.idx 5) [.v 13, .v 12] <|
    .op (.elem 4 none) [.v 13, .v 12] <|
    .op (.app 4 32) [.c (.list []), .v 17] <|
    .op (.idx 5) [.v 13, .v 12] <|
    .op (.set 4) [.v 13, .v 12, .v 18] <|
    .op (.bin .add) [.v 12, .c (.int .i64 (1))] <|
    .leaf 0) <|
   .leaf 1
def tW2 : T := .op (.bin .lss) [.v 20, .v 19] <|
      .ite (.v 22) (.op (.idx 4) [.v 18, .v 20] <|
       .op (.elem 0 (some 4)) [.v 18, .v 20] <|
       .op (.bin .mul) [.c (.int .i64 (2)), .v 14] <|
       .op (.bin .mul) [.c (.int .i64 (3)), .v 20] <|
       .op (.bin .add) [.v 25, .v 26] <|
       .call 19 [.v 5, .v 27] <|
       .shal 4 (.node [.cell (.v 24) 0, .cell (.v 24) 1]) <|
       .call 18 [.node [.cell (.v 24) 0, .cell (.v 24) 1], .v 28] <|
       .flat (.v 29) <|
       .op (.bin .mul) [.c (.int .i64 (2)), .v 14] <|
       .op (.bin .mul) [.c (.int .i64 (3)), .v 20] <|
       .op (.bin .add) [.v 30, .v 31] <|
       .op (.bin .add) [.v 32, .c (.int .i64 (1))] <|
       .call 19 [.v 5, .v 33] <|
       .shal 4 (.node [.cell (.v 24) 2, .cell (.v 24) 3]) <|
       .call 18 [.node [.cell (.v 24) 2, .cell (.v 24) 3], .v 34] <|
       .flat (.v 35) <|
       .op (.bin .leq) [.v 29, .v 35] <|
       .blk (
        .ite (.v 36) (.call 68 [.v 29, .v 29] <|
         .call 68 [.v 35, .v 35] <|
         .op (.listOf 4 1 [.int .i64 (0), .int .i64 (0), .int .i64 (0), .int .i64 (0)] [0]) [.cell (.v 37) 0, .cell (.v 37) 1, .cell (.v 38) 0, .cell (.v 38) 1] <|
         .op (.app 4 32) [.v 21, .v 39] <|
         .leaf 0) <|
        .leaf 1) [([.v 40], 0), ([.v 21], 0)] [.op (.bin .add) [.v 20, .c (.int .i64 (1))] <|
        .leaf 0]) <|
      .leaf 1
def tW3 : T := .op (.bin .lss) [.v 14, .v 13] <|
    .ite (.v 16) (.op (.idx 5) [.v 15, .v 14] <|
     .op (.elem 4 none) [.v 15, .v 14] <|
     .op .len [.v 18] <|
     .loop [.c (.int .i64 (0)), .c (.list [])] tW2 [([.v 38, .v 37], none), ([.v 21], some 0)] [.op (.idx 5) [.v 15, .v 14] <|
      .op (.set 4) [.v 15, .v 14, .v 20] <|
      .op (.bin .add) [.v 14, .c (.int .i64 (1))] <|
      .leaf 0]) <|
    .leaf 1
def tW5 : T := .op (.bin .geq) [.v 41, .c (.int .i64 (100001))] <|
         .ite (.v 42) (.leaf 0) <|
         .op .len [.cell (.v 9) 0] <|
         .op (.bin .leq) [.v 43, .v 18] <|
         .ite (.v 44) (.leaf 1) <|
         .op (.idx 6) [.cell (.v 9) 0, .v 18] <|
         .op (.elem 0 none) [.cell (.v 9) 0, .v 18] <|
         .op (.bin .neq) [.v 46, .v 21] <|
         .ite (.v 47) (.leaf 2) <|
         .op (.idx 6) [.cell (.v 9) 0, .v 18] <|
         .op (.elem 1 none) [.cell (.v 9) 0, .v 18] <|
         .op (.bin .neq) [.v 49, .v 25] <|
         .ite (.v 50) (.leaf 3) <|
         .op (.idx 6) [.cell (.v 9) 0, .v 18] <|
         .op (.elem 4 none) [.cell (.v 9) 0, .v 18] <|
         .op (.bin .lss) [.v 41, .v 52] <|
         .ite (.v 53) (.leaf 4) <|
         .op (.idx 6) [.cell (.v 9) 0, .v 18] <|
         .op (.elem 5 none) [.cell (.v 9) 0, .v 18] <|
         .op (.bin .gtr) [.v 41, .v 55] <|
         .ite (.v 56) (.leaf 5) <|
         .op (.bin .sub) [.v 41, .v 38] <|
         .op (.idx 6) [.cell (.v 9) 0, .v 18] <|
         .op (.elem 2 none) [.cell (.v 9) 0, .v 18] <|
         .op (.bin .lss) [.v 57, .v 59] <|
         .ite (.v 60) (.leaf 6) <|
         .op (.bin .sub) [.v 41, .v 38] <|
         .op (.idx 6) [.cell (.v 9) 0, .v 18] <|
         .op (.elem 3 none) [.cell (.v 9) 0, .v 18] <|
         .op (.bin .gtr) [.v 61, .v 63] <|
         .leaf 7
def tW6 : T := .op (.bin .mul) [.c (.int .i64 (5)), .v 18] <|
        .call 19 [.v 5, .v 27] <|
        .call 18 [.node [.cell (.v 3) 0, .cell (.v 3) 1], .v 28] <|
        .op (.idx 5) [.cell (.v 0) 1, .v 21] <|
        .op (.elem 2 (some 2)) [.cell (.v 0) 1, .v 21] <|
        .op (.bin .mul) [.c (.int .i64 (5)), .v 18] <|
        .op (.bin .add) [.v 32, .c (.int .i64 (1))] <|
        .call 19 [.v 5, .v 33] <|
        .call 18 [.node [.cell (.v 31) 0, .cell (.v 31) 1], .v 34] <|
        .op (.bin .add) [.v 35, .v 29] <|
        .op (.bin .sub) [.v 36, .c (.int .i64 (1))] <|
        .op (.bin .quo) [.v 37, .v 29] <|
        .op (.idx 5) [.v 14, .v 21] <|
        .op (.elem 0 (some 5)) [.v 14, .v 21] <|
        .shal 4 (.node [.cell (.v 40) 0, .cell (.v 40) 1, .cell (.v 40) 2, .cell (.v 40) 3, .cell (.v 40) 4]) <|
        .call 20 [.node [.cell (.v 40) 0, .cell (.v 40) 1, .cell (.v 40) 2, .cell (.v 40) 3, .cell (.v 40) 4], .v 16, .v 38] <|
        .flat (.v 41) <|
        .blk tW5 [([.c (.bool true)], 0), ([.c (.bool true)], 0), ([.c (.bool true)], 0), ([.c (.bool true)], 0), ([.c (.bool true)], 0), ([.c (.bool true)], 0), ([.c (.bool true)], 0), ([.v 64], 0)] [.ite (.v 42) (.leaf 2) <|
         .leaf 3]
def tW7 : T := .blk (
        .op (.bin .lss) [.v 21, .c (.int .i64 (0))] <|
        .ite (.v 22) (.leaf 0) <|
        .op .len [.cell (.v 0) 1] <|
        .op (.bin .geq) [.v 21, .v 23] <|
        .ite (.v 24) (.leaf 1) <|
        .op (.idx 5) [.cell (.v 0) 1, .v 21] <|
        .op (.elem 0 (some 5)) [.cell (.v 0) 1, .v 21] <|
        .call 17 [.node [.cell (.v 26) 0, .cell (.v 26) 1, .cell (.v 26) 2, .cell (.v 26) 3, .cell (.v 26) 4], .v 17] <|
        .op (.bin .lss) [.v 27, .c (.int .i64 (0))] <|
        .leaf 2) [([.c (.bool true)], 0), ([.c (.bool true)], 0), ([.v 28], 0)] [.ite (.v 22) (.blk (
          .ite (.v 6) (.op (.bin .eql) [.cell (.v 9) 2, .c (.int .i64 (8))] <|
           .leaf 0) <|
          .leaf 1) [([.v 23], 0), ([.c (.bool false)], 0)] [.leaf 0]) <|
        .op (.idx 5) [.cell (.v 0) 1, .v 21] <|
        .op (.elem 0 (some 5)) [.cell (.v 0) 1, .v 21] <|
        .call 17 [.node [.cell (.v 24) 0, .cell (.v 24) 1, .cell (.v 24) 2, .cell (.v 24) 3, .cell (.v 24) 4], .v 17] <|
        .op (.bin .neq) [.cell (.v 9) 2, .c (.int .i64 (0))] <|
        .ite (.v 26) (.leaf 1) <|
        tW6]
def tW4 : T := .op (.bin .lss) [.v 18, .v 15] <|
     .ite (.v 19) (.blk (
       .op (.idx 1) [.v 4, .v 18] <|
       .op (.elem 0 none) [.v 4, .v 18] <|
       tW7) [([.v 23], 0), ([.v 16, .v 25], 1), ([.c (.bool false)], 0), ([.v 41, .v 25], 1)] [.leaf 0,
       .op (.bin .add) [.v 18, .c (.int .i64 (1))] <|
       .leaf 1]) <|
     .leaf 2
theorem F4_eq : F4 = ⟨[(some 2), none, none, (some 2), none, none],
 .call 13 [] <|
 .op (.un .not) [.v 6] <|
 .ite (.v 7) (.leaf 0) <|
 .blk (
  .call 14 [.node [.cell (.v 0) 0, .cell (.v 0) 1], .node [.cell (.v 3) 0, .cell (.v 3) 1]] <|
  .op (.un .not) [.v 8] <|
  .ite (.v 9) (.leaf 0) <|
  .op (.bin .lss) [.v 1, .c (.int .i64 (0))] <|
  .ite (.v 10) (.leaf 1) <|
  .op .len [.cell (.v 0) 0] <|
  .op (.bin .geq) [.v 1, .v 11] <|
  .ite (.v 12) (.leaf 2) <|
  .op (.bin .lss) [.v 2, .c (.int .i64 (0))] <|
  .ite (.v 13) (.leaf 3) <|
  .op (.bin .gtr) [.v 2, .c (.int .i64 (100000))] <|
  .ite (.v 14) (.leaf 4) <|
  .op .len [.v 4] <|
  .op (.bin .gtr) [.v 15, .c (.int .i64 (24))] <|
  .leaf 5) [([.c (.bool true)], 0), ([.c (.bool true)], 0), ([.c (.bool true)], 0), ([.c (.bool true)], 0), ([.c (.bool true)], 0), ([.v 16], 0)] [.ite (.v 8) (.leaf 1) <|
  .call 15 [.node [.cell (.v 0) 0, .cell (.v 0) 1], .v 1, .v 2, .node [.cell (.v 3) 0, .cell (.v 3) 1], .v 4] <|
  .op (.app 9 72) [.c (.list []), .cell (.v 0) 0] <|
  .op (.app 5 56) [.c (.list []), .cell (.v 0) 1] <|
  .loop [.c (.int .i64 (0)), .v 11] tW1 [([.v 21, .v 20], none), ([.v 13], some 0)] [.op .len [.v 12] <|
   .loop [.c (.int .i64 (0)), .v 12] tW3 [([.v 23, .v 22], none), ([.v 15], some 0)] [.op .len [.v 4] <|
    .loop [.v 2, .v 1, .c (.int .i64 (0))] tW4 [([.v 20], some 0), ([.v 20, .v 21, .v 22], none), ([], some 1)] [.leaf 2,
     .op (.bin .neq) [.cell (.v 9) 2, .c (.int .i64 (0))] <|
     .ite (.v 16) (.blk (
       .ite (.v 6) (.op (.bin .eql) [.cell (.v 9) 2, .c (.int .i64 (34))] <|
        .ite (.v 17) (.op .len [.cell (.v 9) 0] <|
         .op (.bin .eql) [.v 18, .c (.int .i64 (0))] <|
         .leaf 0) <|
        .leaf 1) <|
       .leaf 2) [([.v 19], 0), ([.c (.bool false)], 0), ([.c (.bool false)], 0)] [.leaf 3]) <|
     .blk (
      .ite (.v 6) (.op .len [.cell (.v 9) 0] <|
       .op .len [.v 4] <|
       .op (.bin .eql) [.v 17, .v 18] <|
       .leaf 0) <|
      .leaf 1) [([.v 19], 0), ([.c (.bool false)], 0)] [.leaf 4]]]]],
 [.c (.bool false), .v 6, .v 16, .v 17, .v 17], .e⟩ := rfl

abbrev o1 : List (List E × Option Nat) := [([E.v 21, E.v 20], none), ([E.v 13], some 0)]
abbrev o2 : List (List E × Option Nat) := [([E.v 38, E.v 37], none), ([E.v 21], some 0)]
abbrev o3 : List (List E × Option Nat) := [([E.v 23, E.v 22], none), ([E.v 15], some 0)]
abbrev o4 : List (List E × Option Nat) := [([E.v 20], some 0), ([E.v 20, E.v 21, E.v 22], none), ([], some 1)]
theorem e68 (a b : Int) : evL FN 68 [I a, I b] = some (.node [I a, I b]) := by
  refine evL_of (F := F68) rfl ?_
  simp [F68, Fn.denV, fits, T.denV, denL, E.den, D.cells]
theorem w2 (by' : List Wd) (gs : List Gt) (i k : Nat) (hi : i ≤ 40) (hk : k < gs.length) (hl : gs.length ≤ 20) (hg : GtOK gs[k]) (d0 d1 d2 d3 d4 d6 d7 d8 d9 d10 d11 d12 d13 d15 d16 d17 : D) :
    outOf o2 (T.denV (evL FN) [d0, d1, d2, d3, d4, wds by', d6, d7, d8, d9, d10, d11, d12, d13, I i, d15, d16, d17, gts gs, I gs.length, I k, gts (trL by' i gs k)] tW2) = some (none, [I ((k + 1 : Nat) : Int), gts (trL by' i gs (k + 1))]) := by
  have v1 := wI (x := 2 * (i : Int)) (by omega)
  have v2 := wI (x := 3 * (k : Int)) (by omega)
  have v3 := wI (x := 2 * (i : Int) + 3 * (k : Int)) (by omega)
  have v4 := wI (x := 2 * (i : Int) + 3 * (k : Int) + 1) (by omega)
  have v5 := wrapN (show k < 9223372036854775807 by omega)
  have a0 := e19 by' (2 * i + 3 * k)
  have a1 := e19 by' (2 * i + 3 * k + 1)
  rw [show ((2 * i + 3 * k : Nat) : Int) = 2 * (i : Int) + 3 * k by omega] at a0
  rw [show ((2 * i + 3 * k + 1 : Nat) : Int) = 2 * (i : Int) + 3 * k + 1 by omega] at a1
  have g1 := hg.a; have g2 := hg.b; have g3 := hg.c; have g4 := hg.d; have g5 := hg.e; have g6 := hg.f
  have p0 := e18 (lo := gs[k].ol) (hi := gs[k].oh) (atS by' (2 * i + 3 * k)) g2 (by omega) (by omega)
  have p1 := e18 (lo := gs[k].sl) (hi := gs[k].sh) (atS by' (2 * i + 3 * k + 1)) g5 (by omega) (by omega)
  have hgk := List.getElem?_eq_getElem hk
  have hT : trL by' i gs (k + 1) = trL by' i gs k ++ (if (trG by' i k gs[k]).o ≤ (trG by' i k gs[k]).s then [(trG by' i k gs[k]).g] else []) := by simp only [trL, hgk]
  have hlen := trL_len (ws := by') (i := i) (gs := gs) k
  rw [hT]
  have q1 : (trG by' i k gs[k]).o = pickS gs[k].ol gs[k].oh (atS by' (2 * i + 3 * k)) := rfl
  have q2 : (trG by' i k gs[k]).s = pickS gs[k].sl gs[k].sh (atS by' (2 * i + 3 * k + 1)) := rfl
  have q3 : (trG by' i k gs[k]).g = ⟨(trG by' i k gs[k]).o, (trG by' i k gs[k]).o, (trG by' i k gs[k]).s, (trG by' i k gs[k]).s⟩ := rfl
  rw [← q1] at p0; rw [← q2] at p1
  rw [q3]
  generalize (trG by' i k gs[k]).o = o at *
  generalize (trG by' i k gs[k]).s = s at *
  generalize trL by' i gs k = L at *
  have h68 := e68 o o
  have h68' := e68 s s
  have hcap : (L.length + 1 + 1) * 33 ≤ 1099511627776 := by omega
  simp only [gts, wds, I] at a0 a1 p0 p1 h68 h68' ⊢
  by_cases hc : o ≤ s <;>
    simp [tW2, T.denV, denL, E.den, D.cells, D.den1, binD, hk, idx_nat hk, partD, Gt.d, I, v1, v2, v3, v4, v5, a0, a1, p0, p1, h68, h68', hc, D.shal, D.shal1, D.shal0, D.flat, D.flat0, outOf, denVK, fillD, hcap]
end Go.Q
