/- The functions as trees. -/
import Derived.Test.YtpdnchpjolkcfaaJL
import Derived.Test.YtpdnchpjolkcfaaChecked
set_option linter.unusedVariables false
set_option maxRecDepth 100000
namespace Go.Q
open Go.V
open Go.Proofs.Try (prog)
def isRef (f : FuncId) : Bool := [100, 65, 104].contains f
def dmR (f : FuncId) : Nat := ([((0 : FuncId), 0)].find? (·.1 == f)).elim 0 (·.2)
noncomputable def TP : FuncId → Option IFn := fun f => cFnD prog (isRef f) (dmR f) f
theorem cFn_ref {P : Program} {b : Bool} {dm : Nat} {f : FuncId} {fn : IFn} (h : cFnD P b dm f = some fn) : fn.byref = b ∧ fn.dm = dm := by
  unfold cFnD at h
  split at h
  · cases h
  · split at h
    · cases h
    · split at h
      · cases h
      · split at h
        · cases h; exact ⟨rfl, rfl⟩
        · cases h
theorem TP_ok : TOK prog TP := fun f fn h => by
  obtain ⟨h1, h2⟩ := cFn_ref h
  rw [h1, h2]; exact h
theorem mixed : prog.follows .mixedOrders = true := by kernel_rfl
def F4 : Fn := ⟨[(some 2), none, none, none],
 .call 18 [] <|
 .op (.un .not) [.v 4] <|
 .ite (.v 5) (.leaf 0) <|
 .blk (
  .call 19 [.node [.cell (.v 0) 0, .cell (.v 0) 1]] <|
  .ite (.v 6) (.leaf 0) <|
  .call 20 [.node [.cell (.v 0) 0, .cell (.v 0) 1]] <|
  .op (.bin .neq) [.v 7, .c (.int .i64 (0))] <|
  .leaf 1) [([.c (.bool true)], 0), ([.v 8], 0)] [.ite (.v 6) (.leaf 1) <|
  .op (.conv .i64) [.v 1] <|
  .op .len [.cell (.v 0) 0] <|
  .op (.bin .rem) [.v 7, .v 8] <|
  .op (.idx 9) [.cell (.v 0) 0, .v 9] <|
  .op (.elem 0 (some 9)) [.cell (.v 0) 0, .v 9] <|
  .op (.bin .sub) [.cell (.v 11) 0, .c (.int .i64 (500))] <|
  .op (.mx true) [.v 12, .c (.int .i64 (-10000000))] <|
  .op (.bin .add) [.cell (.v 11) 0, .c (.int .i64 (500))] <|
  .op (.mx false) [.v 14, .c (.int .i64 (10000000))] <|
  .call 22 [.v 13, .v 15] <|
  .op (.bin .sub) [.cell (.v 11) 1, .c (.int .i64 (500))] <|
  .op (.mx true) [.v 17, .c (.int .i64 (-10000000))] <|
  .op (.bin .add) [.cell (.v 11) 1, .c (.int .i64 (500))] <|
  .op (.mx false) [.v 19, .c (.int .i64 (10000000))] <|
  .call 22 [.v 18, .v 20] <|
  .call 21 [.node [.cell (.v 16) 0, .cell (.v 16) 1], .node [.cell (.v 21) 0, .cell (.v 21) 1]] <|
  .op (.bin .neq) [.cell (.v 22) 1, .c (.int .i64 (0))] <|
  .ite (.v 23) (.leaf 2) <|
  .op .len [.v 2] <|
  .loop [.c (.int .i64 (0)), .cell (.cell (.v 22) 0) 0] (
   .op (.bin .lss) [.v 25, .v 24] <|
   .ite (.v 27) (.blk (
     .op (.idx 1) [.v 2, .v 25] <|
     .op (.elem 0 none) [.v 2, .v 25] <|
     .op (.conv .i64) [.v 29] <|
     .op .len [.cell (.v 0) 0] <|
     .op (.bin .rem) [.v 30, .v 31] <|
     .op (.idx 9) [.cell (.v 0) 0, .v 32] <|
     .op (.elem 0 (some 9)) [.cell (.v 0) 0, .v 32] <|
     .op (.bin .sub) [.cell (.v 34) 0, .cell (.v 11) 0] <|
     .op (.bin .sub) [.cell (.v 34) 1, .cell (.v 11) 1] <|
     .blk (
      .op (.bin .eql) [.v 35, .c (.int .i64 (0))] <|
      .ite (.v 37) (.op (.bin .eql) [.v 36, .c (.int .i64 (0))] <|
       .ite (.v 38) (.leaf 0) <|
       .op (.un .neg) [.v 35] <|
       .op (.un .neg) [.v 36] <|
       .op (.mx true) [.v 35, .v 39, .v 36, .v 40] <|
       .op (.bin .gtr) [.v 41, .c (.int .i64 (400))] <|
       .leaf 1) <|
      .op (.un .neg) [.v 35] <|
      .op (.un .neg) [.v 36] <|
      .op (.mx true) [.v 35, .v 38, .v 36, .v 39] <|
      .op (.bin .gtr) [.v 40, .c (.int .i64 (400))] <|
      .leaf 2) [([.c (.bool true)], 0), ([.v 42], 0), ([.v 41], 0)] [.ite (.v 37) (.leaf 0) <|
      .call 23 [.v 3, .v 25] <|
      .op (.bin .rem) [.v 38, .c (.int .u32 (2))] <|
      .op (.conv .i64) [.v 39] <|
      .op (.bin .add) [.c (.int .i64 (1)), .v 40] <|
      .op (.bin .mul) [.c (.int .i64 (2)), .v 35] <|
      .op (.bin .mul) [.v 36, .v 41] <|
      .op (.bin .quo) [.v 43, .c (.int .i64 (2))] <|
      .op (.bin .add) [.v 42, .v 44] <|
      .op (.bin .mul) [.c (.int .i64 (2)), .v 36] <|
      .op (.bin .mul) [.v 35, .v 41] <|
      .op (.bin .quo) [.v 47, .c (.int .i64 (2))] <|
      .op (.bin .sub) [.v 46, .v 48] <|
      .op (.bin .mul) [.c (.int .i64 (2)), .v 35] <|
      .op (.bin .mul) [.v 36, .v 41] <|
      .op (.bin .quo) [.v 51, .c (.int .i64 (2))] <|
      .op (.bin .sub) [.v 50, .v 52] <|
      .op (.bin .mul) [.c (.int .i64 (2)), .v 36] <|
      .op (.bin .mul) [.v 35, .v 41] <|
      .op (.bin .quo) [.v 55, .c (.int .i64 (2))] <|
      .op (.bin .add) [.v 54, .v 56] <|
      .blk (
       .op (.bin .mul) [.v 45, .v 57] <|
       .op (.bin .mul) [.v 49, .v 53] <|
       .op (.bin .sub) [.v 58, .v 59] <|
       .op (.bin .leq) [.v 60, .c (.int .i64 (0))] <|
       .ite (.v 61) (.leaf 0) <|
       .op (.bin .mul) [.v 45, .v 36] <|
       .op (.bin .mul) [.v 49, .v 35] <|
       .op (.bin .sub) [.v 62, .v 63] <|
       .op (.bin .lss) [.v 64, .c (.int .i64 (0))] <|
       .ite (.v 65) (.leaf 1) <|
       .op (.bin .mul) [.v 35, .v 57] <|
       .op (.bin .mul) [.v 36, .v 53] <|
       .op (.bin .sub) [.v 66, .v 67] <|
       .op (.bin .lss) [.v 68, .c (.int .i64 (0))] <|
       .ite (.v 69) (.leaf 2) <|
       .op (.un .neg) [.v 45] <|
       .op (.un .neg) [.v 49] <|
       .op (.un .neg) [.v 53] <|
       .op (.un .neg) [.v 57] <|
       .op (.mx true) [.v 45, .v 70, .v 49, .v 71, .v 53, .v 72, .v 57, .v 73] <|
       .op (.bin .gtr) [.v 74, .c (.int .i64 (1000))] <|
       .leaf 3) [([.c (.bool true)], 0), ([.c (.bool true)], 0), ([.c (.bool true)], 0), ([.v 75], 0)] [.ite (.v 58) (.leaf 1) <|
       .call 24 [.node [.v 26], .node [.c (.int .u8 (1)), .cell (.v 34) 0, .cell (.v 34) 1, .v 45, .v 49, .v 53, .v 57, .c (.int .i64 (0)), .c (.int .i64 (0)), .c (.int .i64 (0))]] <|
       .flat (.cell (.v 59) 1) <|
       .shal 1 (.cell (.cell (.v 59) 0) 0) <|
       .op (.bin .eql) [.cell (.v 59) 1, .c (.int .i64 (9))] <|
       .ite (.v 60) (.leaf 2) <|
       .blk (
        .op (.bin .neq) [.cell (.v 59) 1, .c (.int .i64 (0))] <|
        .ite (.v 61) (.leaf 0) <|
        .call 25 [.node [.cell (.cell (.v 59) 0) 0], .cell (.v 11) 0, .cell (.v 11) 1] <|
        .flat (.v 62) <|
        .op (.un .not) [.v 62] <|
        .leaf 1) [([.c (.bool true)], 0), ([.v 63], 0)] [.ite (.v 61) (.leaf 3) <|
        .leaf 4]]]) [([.v 26], 0), ([.v 26], 0), ([], 1), ([], 2), ([.cell (.cell (.v 59) 0) 0], 0)] [.op (.bin .add) [.v 25, .c (.int .i64 (1))] <|
     .leaf 0,
     .leaf 1,
     .leaf 2]) <|
   .leaf 3) [([.v 29, .v 28], none), ([.v 26], some 0), ([], some 1), ([.v 26], some 0)] [.call 26 [.node [.v 25]] <|
   .flat (.cell (.cell (.v 26) 0) 0) <|
   .flat (.cell (.cell (.v 26) 0) 1) <|
   .flat (.cell (.cell (.v 26) 1) 0) <|
   .flat (.cell (.cell (.v 26) 1) 1) <|
   .flat (.cell (.v 26) 2) <|
   .call 27 [.node [.v 25], .cell (.v 11) 0, .cell (.v 11) 1, .c (.int .i64 (0))] <|
   .flat (.cell (.v 27) 0) <|
   .flat (.cell (.v 27) 1) <|
   .blk (
    .op (.bin .neq) [.cell (.v 26) 2, .c (.int .i64 (0))] <|
    .ite (.v 28) (.leaf 0) <|
    .op (.bin .neq) [.cell (.v 27) 1, .c (.int .i64 (0))] <|
    .ite (.v 29) (.leaf 1) <|
    .op (.bin .eql) [.cell (.v 27) 0, .c (.int .u8 (0))] <|
    .ite (.v 30) (.leaf 2) <|
    .op (.bin .lss) [.cell (.v 11) 0, .cell (.cell (.v 26) 0) 0] <|
    .ite (.v 31) (.leaf 3) <|
    .op (.bin .gtr) [.cell (.v 11) 0, .cell (.cell (.v 26) 0) 1] <|
    .ite (.v 32) (.leaf 4) <|
    .op (.bin .lss) [.cell (.v 11) 1, .cell (.cell (.v 26) 1) 0] <|
    .ite (.v 33) (.leaf 5) <|
    .op (.bin .gtr) [.cell (.v 11) 1, .cell (.cell (.v 26) 1) 1] <|
    .leaf 6) [([.c (.bool true)], 0), ([.c (.bool true)], 0), ([.c (.bool true)], 0), ([.c (.bool true)], 0), ([.c (.bool true)], 0), ([.c (.bool true)], 0), ([.v 34], 0)] [.ite (.v 28) (.leaf 3) <|
    .blk (
     .ite (.v 4) (.op (.bin .eql) [.cell (.v 27) 0, .c (.int .u8 (2))] <|
      .call 22 [.cell (.v 11) 0, .cell (.v 11) 0] <|
      .op (.eqv false [false, false]) [.cell (.cell (.v 26) 0) 0, .cell (.cell (.v 26) 0) 1, .cell (.v 30) 0, .cell (.v 30) 1] <|
      .ite (.v 31) (.call 22 [.cell (.v 11) 1, .cell (.v 11) 1] <|
       .op (.eqv false [false, false]) [.cell (.cell (.v 26) 1) 0, .cell (.cell (.v 26) 1) 1, .cell (.v 32) 0, .cell (.v 32) 1] <|
       .op (.eqv false [true]) [.v 29, .v 33] <|
       .leaf 0) <|
      .op (.eqv false [true]) [.v 29, .c (.bool false)] <|
      .leaf 1) <|
     .leaf 2) [([.v 34], 0), ([.v 32], 0), ([.c (.bool false)], 0)] [.leaf 4]],
   .leaf 5]],
 [.c (.bool false), .v 4, .c (.bool false), .c (.bool false), .v 29, .c (.bool false)], .e⟩
def F18 : Fn := ⟨[],
 .leaf 0,
 [.c (.bool true)], .e⟩
def F19 : Fn := ⟨[(some 2)],
 .blk (
  .op .len [.cell (.v 0) 0] <|
  .op (.bin .gtr) [.v 1, .c (.int .i64 (20))] <|
  .ite (.v 2) (.leaf 0) <|
  .op .len [.cell (.v 0) 1] <|
  .op (.bin .gtr) [.v 3, .c (.int .i64 (40))] <|
  .leaf 1) [([.c (.bool true)], 0), ([.v 4], 0)] [.ite (.v 1) (.leaf 0) <|
  .loop [.c (.int .i64 (0))] (
   .op .len [.cell (.v 0) 1] <|
   .op (.bin .lss) [.v 2, .v 3] <|
   .ite (.v 4) (.op (.idx 5) [.cell (.v 0) 1, .v 2] <|
    .op (.elem 4 none) [.cell (.v 0) 1, .v 2] <|
    .op .len [.v 6] <|
    .op (.bin .gtr) [.v 7, .c (.int .i64 (20))] <|
    .ite (.v 8) (.leaf 0) <|
    .op (.bin .add) [.v 2, .c (.int .i64 (1))] <|
    .leaf 1) <|
   .leaf 2) [([], some 0), ([.v 9], none), ([], some 1)] [.leaf 1,
   .leaf 2]],
 [.c (.bool true), .c (.bool true), .c (.bool false)], .e⟩
def F20 : Fn := ⟨[(some 2)],
 .call 57 [.node [.cell (.v 0) 0, .cell (.v 0) 1]] <|
 .op (.un .not) [.v 1] <|
 .ite (.v 2) (.leaf 0) <|
 .leaf 1,
 [.c (.int .i64 (30)), .c (.int .i64 (0))], .e⟩
def F21 : Fn := ⟨[(some 2), (some 2)],
 .blk (
  .call 58 [.node [.cell (.v 0) 0, .cell (.v 0) 1], .c (.int .i64 (-10000000)), .c (.int .i64 (10000000))] <|
  .op (.un .not) [.v 2] <|
  .ite (.v 3) (.leaf 0) <|
  .call 58 [.node [.cell (.v 1) 0, .cell (.v 1) 1], .c (.int .i64 (-10000000)), .c (.int .i64 (10000000))] <|
  .op (.un .not) [.v 4] <|
  .leaf 1) [([.c (.bool true)], 0), ([.v 5], 0)] [.ite (.v 2) (.leaf 0) <|
  .call 59 [.node [.cell (.v 0) 0, .cell (.v 0) 1], .node [.cell (.v 1) 0, .cell (.v 1) 1]] <|
  .leaf 1],
 [.node [.node [.c (.list [])], .c (.int .i64 (2))], .node [.node [.v 3], .c (.int .i64 (0))]], .tup [.node [.own 3], .e]⟩
def F22 : Fn := ⟨[none, none],
 .leaf 0,
 [.node [.v 0, .v 1]], .node [.e, .e]⟩
def F23 : Fn := ⟨[none, none],
 .op .len [.v 0] <|
 .op (.bin .eql) [.v 2, .c (.int .i64 (0))] <|
 .ite (.v 3) (.leaf 0) <|
 .op .len [.v 0] <|
 .op (.bin .rem) [.v 1, .v 4] <|
 .op (.idx 1) [.v 0, .v 5] <|
 .op (.elem 0 none) [.v 0, .v 5] <|
 .leaf 1,
 [.c (.int .u32 (0)), .v 7], .e⟩
def F24 : Fn := ⟨[(some 1), (some 10)],
 .call 60 [.node [.cell (.v 0) 0]] <|
 .op (.bin .neq) [.v 2, .c (.int .i64 (0))] <|
 .ite (.v 3) (.leaf 0) <|
 .call 61 [.node [.cell (.v 1) 0, .cell (.v 1) 1, .cell (.v 1) 2, .cell (.v 1) 3, .cell (.v 1) 4, .cell (.v 1) 5, .cell (.v 1) 6, .cell (.v 1) 7, .cell (.v 1) 8, .cell (.v 1) 9]] <|
 .op (.un .not) [.v 4] <|
 .ite (.v 5) (.leaf 1) <|
 .call 63 [.node [.cell (.v 1) 0, .cell (.v 1) 1, .cell (.v 1) 2, .cell (.v 1) 3, .cell (.v 1) 4, .cell (.v 1) 5, .cell (.v 1) 6, .cell (.v 1) 7, .cell (.v 1) 8, .cell (.v 1) 9]] <|
 .op (.listOf 1 2 [.list []] [0, 1]) [.cell (.v 0) 0, .v 6] <|
 .shal 4 (.v 7) <|
 .call 62 [.v 7] <|
 .shal 1 (.v 8) <|
 .op .len [.v 8] <|
 .op (.bin .gtr) [.v 9, .c (.int .i64 (40))] <|
 .ite (.v 10) (.leaf 2) <|
 .call 64 [.v 8] <|
 .flat (.v 11) <|
 .op (.un .not) [.v 11] <|
 .ite (.v 12) (.leaf 3) <|
 .leaf 4,
 [.node [.node [.c (.list [])], .v 2], .node [.node [.c (.list [])], .c (.int .i64 (41))], .node [.node [.c (.list [])], .c (.int .i64 (9))], .node [.node [.c (.list [])], .c (.int .i64 (43))], .node [.node [.v 8], .c (.int .i64 (0))]], .tup [.node [.own 3], .e]⟩
def F25 : Fn := ⟨[(some 1), none, none],
 .op .len [.cell (.v 0) 0] <|
 .loop [.c (.int .i64 (0))] (
  .op (.bin .lss) [.v 4, .v 3] <|
  .ite (.v 5) (.op (.idx 3) [.cell (.v 0) 0, .v 4] <|
   .op (.elem 0 (some 3)) [.cell (.v 0) 0, .v 4] <|
   .op (.bin .mul) [.cell (.v 7) 0, .v 1] <|
   .op (.bin .mul) [.cell (.v 7) 1, .v 2] <|
   .op (.bin .add) [.v 8, .v 9] <|
   .op (.bin .gtr) [.v 10, .cell (.v 7) 2] <|
   .ite (.v 11) (.leaf 0) <|
   .op (.bin .add) [.v 4, .c (.int .i64 (1))] <|
   .leaf 1) <|
  .leaf 2) [([], some 0), ([.v 12], none), ([], some 1)] [.leaf 0,
  .leaf 1],
 [.c (.bool false), .c (.bool true)], .e⟩
def F26 : Fn := ⟨[(some 1)],
 .call 60 [.node [.cell (.v 0) 0]] <|
 .op (.bin .neq) [.v 1, .c (.int .i64 (0))] <|
 .ite (.v 2) (.leaf 0) <|
 .op .len [.cell (.v 0) 0] <|
 .loop [.c (.int .i64 (0)), .c (.list []), .c (.list [])] (
  .op (.bin .lss) [.v 4, .v 3] <|
  .ite (.v 7) (.op (.idx 3) [.cell (.v 0) 0, .v 4] <|
   .op (.elem 0 (some 3)) [.cell (.v 0) 0, .v 4] <|
   .op (.sl 3 false true) [.cell (.v 0) 0, .v 4] <|
   .op .len [.v 10] <|
   .loop [.c (.int .i64 (0)), .v 5, .v 6] (
    .op (.bin .lss) [.v 12, .v 11] <|
    .ite (.v 15) (.op (.idx 3) [.v 10, .v 12] <|
     .op (.elem 0 (some 3)) [.v 10, .v 12] <|
     .call 105 [.node [.cell (.v 9) 0, .cell (.v 9) 1, .cell (.v 9) 2], .node [.cell (.v 17) 0, .cell (.v 17) 1, .cell (.v 17) 2]] <|
     .blk (
      .ite (.cell (.v 18) 1) (.flat (.node [.cell (.cell (.v 18) 0) 0, .cell (.cell (.v 18) 0) 1, .cell (.cell (.v 18) 0) 2]) <|
       .call 87 [.cell (.v 0) 0, .fn 106 [.node [.cell (.cell (.v 18) 0) 0, .cell (.cell (.v 18) 0) 1, .cell (.cell (.v 18) 0) 2]] []] <|
       .ite (.v 19) (.call 66 [.cell (.cell (.v 18) 0) 0, .cell (.cell (.v 18) 0) 2] <|
        .call 67 [.cell (.cell (.v 18) 0) 0, .cell (.cell (.v 18) 0) 2] <|
        .op (.listOf 1 2 [.int .i64 (0)] [0, 1]) [.v 20, .v 21] <|
        .op (.app 1 8) [.v 13, .v 22] <|
        .call 66 [.cell (.cell (.v 18) 0) 1, .cell (.cell (.v 18) 0) 2] <|
        .call 67 [.cell (.cell (.v 18) 0) 1, .cell (.cell (.v 18) 0) 2] <|
        .op (.listOf 1 2 [.int .i64 (0)] [0, 1]) [.v 24, .v 25] <|
        .op (.app 1 8) [.v 14, .v 26] <|
        .leaf 0) <|
       .leaf 1) <|
      .leaf 2) [([.v 23, .v 27], 0), ([.v 13, .v 14], 0), ([.v 13, .v 14], 0)] [.op (.bin .add) [.v 12, .c (.int .i64 (1))] <|
      .leaf 0]) <|
    .leaf 1) [([.v 21, .v 19, .v 20], none), ([.v 13, .v 14], some 0)] [.op (.bin .add) [.v 4, .c (.int .i64 (1))] <|
    .leaf 0]) <|
  .leaf 1) [([.v 14, .v 12, .v 13], none), ([.v 5, .v 6], some 0)] [.op .len [.v 4] <|
  .op (.bin .eql) [.v 6, .c (.int .i64 (0))] <|
  .ite (.v 7) (.leaf 1) <|
  .call 68 [.v 4] <|
  .flat (.cell (.v 8) 0) <|
  .flat (.cell (.v 8) 1) <|
  .call 68 [.v 5] <|
  .flat (.cell (.v 9) 0) <|
  .flat (.cell (.v 9) 1) <|
  .leaf 2],
 [.node [.node [.c (.int .i64 (0)), .c (.int .i64 (0))], .node [.c (.int .i64 (0)), .c (.int .i64 (0))], .v 1], .node [.node [.c (.int .i64 (0)), .c (.int .i64 (0))], .node [.c (.int .i64 (0)), .c (.int .i64 (0))], .c (.int .i64 (43))], .node [.node [.cell (.v 8) 0, .cell (.v 8) 1], .node [.cell (.v 9) 0, .cell (.v 9) 1], .c (.int .i64 (0))]], .tup [.node [.e, .e], .node [.e, .e], .e]⟩
def F27 : Fn := ⟨[(some 1), none, none, none],
 .call 60 [.node [.cell (.v 0) 0]] <|
 .op (.bin .neq) [.v 4, .c (.int .i64 (0))] <|
 .ite (.v 5) (.leaf 0) <|
 .call 61 [.node [.c (.int .u8 (3)), .v 1, .v 2, .c (.int .i64 (0)), .c (.int .i64 (0)), .c (.int .i64 (0)), .c (.int .i64 (0)), .c (.int .i64 (0)), .c (.int .i64 (0)), .v 3]] <|
 .op (.un .not) [.v 6] <|
 .ite (.v 7) (.leaf 1) <|
 .call 64 [.cell (.v 0) 0] <|
 .op (.un .not) [.v 8] <|
 .ite (.v 9) (.leaf 2) <|
 .call 63 [.node [.c (.int .u8 (3)), .v 1, .v 2, .c (.int .i64 (0)), .c (.int .i64 (0)), .c (.int .i64 (0)), .c (.int .i64 (0)), .c (.int .i64 (0)), .c (.int .i64 (0)), .v 3]] <|
 .call 69 [.cell (.v 0) 0, .v 10] <|
 .flat (.v 11) <|
 .leaf 3,
 [.node [.c (.int .u8 (0)), .v 4], .node [.c (.int .u8 (0)), .c (.int .i64 (2))], .node [.c (.int .u8 (0)), .c (.int .i64 (43))], .node [.v 11, .c (.int .i64 (0))]], .tup [.e, .e]⟩
def F57 : Fn := ⟨[(some 2)],
 .blk (
  .op .len [.cell (.v 0) 0] <|
  .call 93 [.v 1, .c (.int .i64 (1)), .c (.int .i64 (12))] <|
  .op (.un .not) [.v 2] <|
  .ite (.v 3) (.leaf 0) <|
  .op .len [.cell (.v 0) 1] <|
  .op (.bin .gtr) [.v 4, .c (.int .i64 (24))] <|
  .leaf 1) [([.c (.bool true)], 0), ([.v 5], 0)] [.ite (.v 1) (.leaf 0) <|
  .loop [.c (.int .i64 (0))] (
   .op .len [.cell (.v 0) 0] <|
   .op (.bin .lss) [.v 2, .v 3] <|
   .ite (.v 4) (.op (.idx 9) [.cell (.v 0) 0, .v 2] <|
    .op (.elem 0 (some 9)) [.cell (.v 0) 0, .v 2] <|
    .blk (
     .call 93 [.cell (.v 6) 0, .c (.int .i64 (-10000000)), .c (.int .i64 (10000000))] <|
     .op (.un .not) [.v 7] <|
     .ite (.v 8) (.leaf 0) <|
     .call 93 [.cell (.v 6) 1, .c (.int .i64 (-10000000)), .c (.int .i64 (10000000))] <|
     .op (.un .not) [.v 9] <|
     .ite (.v 10) (.leaf 1) <|
     .call 93 [.cell (.v 6) 2, .c (.int .i64 (0)), .c (.int .i64 (200))] <|
     .op (.un .not) [.v 11] <|
     .ite (.v 12) (.leaf 2) <|
     .call 94 [.node [.cell (.v 6) 3, .cell (.v 6) 4], .c (.int .i64 (0)), .c (.int .i64 (10000000))] <|
     .op (.un .not) [.v 13] <|
     .ite (.v 14) (.leaf 3) <|
     .call 93 [.cell (.v 6) 5, .c (.int .i64 (0)), .c (.int .i64 (1000000000))] <|
     .op (.un .not) [.v 15] <|
     .ite (.v 16) (.leaf 4) <|
     .call 94 [.node [.cell (.v 6) 6, .cell (.v 6) 7], .c (.int .i64 (0)), .cell (.v 6) 5] <|
     .op (.un .not) [.v 17] <|
     .ite (.v 18) (.leaf 5) <|
     .call 93 [.cell (.v 6) 8, .c (.int .i64 (0)), .c (.int .i64 (9999))] <|
     .op (.un .not) [.v 19] <|
     .leaf 6) [([.c (.bool true)], 0), ([.c (.bool true)], 0), ([.c (.bool true)], 0), ([.c (.bool true)], 0), ([.c (.bool true)], 0), ([.c (.bool true)], 0), ([.v 20], 0)] [.ite (.v 7) (.leaf 0) <|
     .op (.bin .add) [.v 2, .c (.int .i64 (1))] <|
     .leaf 1]) <|
   .leaf 2) [([], some 0), ([.v 8], none), ([], some 1)] [.leaf 1,
   .loop [.c (.int .i64 (0))] (
    .op .len [.cell (.v 0) 1] <|
    .op (.bin .lss) [.v 2, .v 3] <|
    .ite (.v 4) (.blk (
      .op (.idx 5) [.cell (.v 0) 1, .v 2] <|
      .op (.elem 0 (some 5)) [.cell (.v 0) 1, .v 2] <|
      .blk (
       .op .len [.cell (.v 0) 0] <|
       .op (.bin .sub) [.v 7, .c (.int .i64 (1))] <|
       .call 93 [.cell (.v 6) 0, .c (.int .i64 (0)), .v 8] <|
       .op (.un .not) [.v 9] <|
       .ite (.v 10) (.leaf 0) <|
       .op .len [.cell (.v 0) 0] <|
       .op (.bin .sub) [.v 11, .c (.int .i64 (1))] <|
       .call 93 [.cell (.v 6) 1, .c (.int .i64 (0)), .v 12] <|
       .op (.un .not) [.v 13] <|
       .ite (.v 14) (.leaf 1) <|
       .op (.bin .eql) [.cell (.v 6) 0, .cell (.v 6) 1] <|
       .ite (.v 15) (.leaf 2) <|
       .call 94 [.node [.cell (.v 6) 2, .cell (.v 6) 3], .c (.int .i64 (1)), .c (.int .i64 (1000000))] <|
       .op (.un .not) [.v 16] <|
       .ite (.v 17) (.leaf 3) <|
       .op .len [.cell (.v 6) 4] <|
       .op (.bin .gtr) [.v 18, .c (.int .i64 (6))] <|
       .leaf 4) [([.c (.bool true)], 0), ([.c (.bool true)], 0), ([.c (.bool true)], 0), ([.c (.bool true)], 0), ([.v 19], 0)] [.ite (.v 7) (.leaf 0) <|
       .loop [.c (.int .i64 (-1)), .c (.int .i64 (0))] (
        .op .len [.cell (.v 6) 4] <|
        .op (.bin .lss) [.v 9, .v 10] <|
        .ite (.v 11) (.op (.idx 4) [.cell (.v 6) 4, .v 9] <|
         .op (.elem 0 (some 4)) [.cell (.v 6) 4, .v 9] <|
         .blk (
          .call 94 [.node [.cell (.v 13) 0, .cell (.v 13) 1], .c (.int .i64 (0)), .c (.int .i64 (100000))] <|
          .op (.un .not) [.v 14] <|
          .ite (.v 15) (.leaf 0) <|
          .call 94 [.node [.cell (.v 13) 2, .cell (.v 13) 3], .c (.int .i64 (0)), .c (.int .i64 (100000))] <|
          .op (.un .not) [.v 16] <|
          .ite (.v 17) (.leaf 1) <|
          .op (.bin .gtr) [.cell (.v 13) 0, .cell (.v 13) 3] <|
          .ite (.v 18) (.leaf 2) <|
          .op (.bin .leq) [.cell (.v 13) 0, .v 8] <|
          .leaf 3) [([.c (.bool true)], 0), ([.c (.bool true)], 0), ([.c (.bool true)], 0), ([.v 19], 0)] [.ite (.v 14) (.leaf 0) <|
          .op (.bin .add) [.v 9, .c (.int .i64 (1))] <|
          .leaf 1]) <|
        .leaf 2) [([], some 0), ([.cell (.v 13) 3, .v 15], none), ([], some 1)] [.leaf 1,
        .leaf 2]]) [([], 0), ([], 0), ([], 1)] [.leaf 0,
      .op (.bin .add) [.v 2, .c (.int .i64 (1))] <|
      .leaf 1]) <|
    .leaf 2) [([], some 0), ([.v 5], none), ([], some 1)] [.leaf 2,
    .leaf 3]]],
 [.c (.bool false), .c (.bool false), .c (.bool false), .c (.bool true)], .e⟩
def F58 : Fn := ⟨[(some 2), none, none],
 .blk (
  .op (.bin .leq) [.v 1, .cell (.v 0) 0] <|
  .ite (.v 3) (.op (.bin .leq) [.cell (.v 0) 0, .cell (.v 0) 1] <|
   .ite (.v 4) (.op (.bin .leq) [.cell (.v 0) 1, .v 2] <|
    .leaf 0) <|
   .leaf 1) <|
  .leaf 2) [([.v 5], 0), ([.c (.bool false)], 0), ([.c (.bool false)], 0)] [.leaf 0],
 [.v 3], .e⟩
def F59 : Fn := ⟨[(some 2), (some 2)],
 .op (.un .neg) [.cell (.v 0) 0] <|
 .op (.un .neg) [.cell (.v 1) 0] <|
 .op (.listOf 3 4 [.int .i64 (0), .int .i64 (0), .int .i64 (0)] [0, 1, 2, 3]) [.c (.int .i64 (1)), .c (.int .i64 (0)), .cell (.v 0) 1, .c (.int .i64 (-1)), .c (.int .i64 (0)), .v 2, .c (.int .i64 (0)), .c (.int .i64 (1)), .cell (.v 1) 1, .c (.int .i64 (0)), .c (.int .i64 (-1)), .v 3] <|
 .leaf 0,
 [.v 4], .own 3⟩
def F60 : Fn := ⟨[(some 1)],
 .call 95 [.node [.cell (.v 0) 0]] <|
 .op (.un .not) [.v 1] <|
 .ite (.v 2) (.leaf 0) <|
 .leaf 1,
 [.c (.int .i64 (40)), .c (.int .i64 (0))], .e⟩
def F61 : Fn := ⟨[(some 10)],
 .op (.bin .eql) [.cell (.v 0) 0, .c (.int .u8 (1))] <|
 .blk (
  .ite (.v 1) (.blk (
    .call 96 [.cell (.v 0) 1, .cell (.v 0) 2] <|
    .ite (.v 2) (.call 97 [.node [.cell (.v 0) 3, .cell (.v 0) 4]] <|
     .ite (.v 3) (.call 97 [.node [.cell (.v 0) 5, .cell (.v 0) 6]] <|
      .ite (.v 4) (.call 98 [.node [.cell (.v 0) 3, .cell (.v 0) 4], .node [.cell (.v 0) 5, .cell (.v 0) 6]] <|
       .leaf 0) <|
      .leaf 1) <|
     .leaf 2) <|
    .leaf 3) [([.v 5], 0), ([.c (.bool false)], 0), ([.c (.bool false)], 0), ([.c (.bool false)], 0)] [.leaf 0]) <|
  .op (.bin .eql) [.cell (.v 0) 0, .c (.int .u8 (2))] <|
  .blk (
   .ite (.v 2) (.call 58 [.node [.cell (.v 0) 7, .cell (.v 0) 8], .c (.int .i64 (-10000000)), .c (.int .i64 (10000000))] <|
    .leaf 0) <|
   .op (.bin .eql) [.cell (.v 0) 0, .c (.int .u8 (3))] <|
   .ite (.v 3) (.blk (
     .call 96 [.cell (.v 0) 1, .cell (.v 0) 2] <|
     .ite (.v 4) (.call 99 [.cell (.v 0) 9, .c (.int .i64 (0)), .c (.int .i64 (10000000))] <|
      .leaf 0) <|
     .leaf 1) [([.v 5], 0), ([.c (.bool false)], 0)] [.leaf 1]) <|
   .leaf 2) [([.v 3], 0), ([.v 4], 0), ([], 1)] [.leaf 1,
   .leaf 2]) [([.v 2], 0), ([.v 3], 0), ([], 1)] [.leaf 0,
  .leaf 1],
 [.v 2, .c (.bool false)], .e⟩
def F62 : Fn := ⟨[none],
 .op .len [.v 0] <|
 .loop [.c (.int .i64 (0)), .c (.int .i64 (0))] (
  .op (.bin .lss) [.v 3, .v 1] <|
  .ite (.v 4) (.op (.idx 1) [.v 0, .v 3] <|
   .op (.elem 0 none) [.v 0, .v 3] <|
   .op .len [.v 6] <|
   .op (.bin .add) [.v 2, .v 7] <|
   .op (.bin .lss) [.v 8, .c (.int .i64 (0))] <|
   .ite (.v 9) (.fail) <|
   .op (.bin .add) [.v 3, .c (.int .i64 (1))] <|
   .leaf 0) <|
  .leaf 1) [([.v 8, .v 10], none), ([.v 2], some 0)] [.op (.bin .lss) [.v 2, .c (.int .i64 (0))] <|
  .ite (.v 3) (.fail) <|
  .op (.bin .sub) [.v 2, .c (.int .i64 (0))] <|
  .op (.bin .gtr) [.v 4, .c (.int .i64 (0))] <|
  .blk (
   .ite (.v 5) (.op (.appZ 3 24 [.int .i64 (0), .int .i64 (0), .int .i64 (0)]) [.v 4] <|
    .op (.sl 3 false true) [.v 6, .c (.int .i64 (0))] <|
    .leaf 0) <|
   .leaf 1) [([.v 7], 0), ([.c (.list [])], 0)] [.op .len [.v 0] <|
   .loop [.c (.int .i64 (0)), .v 6] (
    .op (.bin .lss) [.v 8, .v 7] <|
    .ite (.v 10) (.op (.idx 1) [.v 0, .v 8] <|
     .op (.elem 0 none) [.v 0, .v 8] <|
     .op (.app 3 24) [.v 9, .v 12] <|
     .op (.bin .add) [.v 8, .c (.int .i64 (1))] <|
     .leaf 0) <|
    .leaf 1) [([.v 14, .v 13], none), ([.v 9], some 0)] [.leaf 0]]],
 [.v 8], .own 3⟩
def F63 : Fn := ⟨[(some 10)],
 .blk (
  .op (.isK 0) [.cell (.v 0) 0] <|
  .ite (.v 1) (.fail) <|
  .op (.isK 1) [.cell (.v 0) 0] <|
  .ite (.v 2) (.call 101 [.node [.cell (.v 0) 0, .cell (.v 0) 1, .cell (.v 0) 2, .cell (.v 0) 3, .cell (.v 0) 4, .cell (.v 0) 5, .cell (.v 0) 6, .cell (.v 0) 7, .cell (.v 0) 8, .cell (.v 0) 9]] <|
   .leaf 0) <|
  .op (.isK 2) [.cell (.v 0) 0] <|
  .ite (.v 3) (.call 102 [.node [.cell (.v 0) 0, .cell (.v 0) 1, .cell (.v 0) 2, .cell (.v 0) 3, .cell (.v 0) 4, .cell (.v 0) 5, .cell (.v 0) 6, .cell (.v 0) 7, .cell (.v 0) 8, .cell (.v 0) 9]] <|
   .leaf 1) <|
  .op (.isK 3) [.cell (.v 0) 0] <|
  .ite (.v 4) (.call 103 [.node [.cell (.v 0) 0, .cell (.v 0) 1, .cell (.v 0) 2, .cell (.v 0) 3, .cell (.v 0) 4, .cell (.v 0) 5, .cell (.v 0) 6, .cell (.v 0) 7, .cell (.v 0) 8, .cell (.v 0) 9]] <|
   .leaf 2) <|
  .fail) [([.v 3], 0), ([.v 4], 0), ([.v 5], 0)] [.leaf 0],
 [.v 1], .own 3⟩
def F64 : Fn := ⟨[none],
 .op .len [.v 0] <|
 .loop [.c (.int .i64 (0))] (
  .op (.bin .lss) [.v 2, .v 1] <|
  .ite (.v 3) (.op (.idx 3) [.v 0, .v 2] <|
   .op (.elem 0 (some 3)) [.v 0, .v 2] <|
   .op (.sl 3 false true) [.v 0, .v 2] <|
   .op .len [.v 6] <|
   .loop [.c (.int .i64 (0))] (
    .op (.bin .lss) [.v 8, .v 7] <|
    .ite (.v 9) (.op (.idx 3) [.v 6, .v 8] <|
     .op (.elem 0 (some 3)) [.v 6, .v 8] <|
     .call 105 [.node [.cell (.v 5) 0, .cell (.v 5) 1, .cell (.v 5) 2], .node [.cell (.v 11) 0, .cell (.v 11) 1, .cell (.v 11) 2]] <|
     .blk (
      .ite (.cell (.v 12) 1) (.flat (.node [.cell (.cell (.v 12) 0) 0, .cell (.cell (.v 12) 0) 1, .cell (.cell (.v 12) 0) 2]) <|
       .call 87 [.v 0, .fn 106 [.node [.cell (.cell (.v 12) 0) 0, .cell (.cell (.v 12) 0) 1, .cell (.cell (.v 12) 0) 2]] []] <|
       .ite (.v 13) (.leaf 0) <|
       .leaf 1) <|
      .leaf 2) [([], 0), ([], 1), ([], 1)] [.leaf 0,
      .op (.bin .add) [.v 8, .c (.int .i64 (1))] <|
      .leaf 1]) <|
    .leaf 2) [([], some 0), ([.v 13], none), ([], some 1)] [.leaf 0,
    .op (.bin .add) [.v 2, .c (.int .i64 (1))] <|
    .leaf 1]) <|
  .leaf 2) [([], some 0), ([.v 8], none), ([], some 1)] [.leaf 0,
  .leaf 1],
 [.c (.bool true), .c (.bool false)], .e⟩
def F66 : Fn := ⟨[none, none],
 .op (.bin .rem) [.v 0, .v 1] <|
 .op (.bin .lss) [.v 2, .c (.int .i64 (0))] <|
 .ite (.v 3) (.op (.bin .quo) [.v 0, .v 1] <|
  .op (.bin .sub) [.v 4, .c (.int .i64 (1))] <|
  .leaf 0) <|
 .op (.bin .quo) [.v 0, .v 1] <|
 .leaf 1,
 [.v 5, .v 4], .e⟩
def F67 : Fn := ⟨[none, none],
 .op (.un .neg) [.v 0] <|
 .call 66 [.v 2, .v 1] <|
 .op (.un .neg) [.v 3] <|
 .leaf 0,
 [.v 4], .e⟩
def F68 : Fn := ⟨[none],
 .call 107 [.v 0] <|
 .call 108 [.v 0] <|
 .leaf 0,
 [.node [.v 1, .v 2]], .node [.e, .e]⟩
def F69 : Fn := ⟨[none, none],
 .op (.listOf 1 2 [.list []] [0, 1]) [.v 0, .v 1] <|
 .call 62 [.v 2] <|
 .shal 1 (.v 3) <|
 .call 64 [.v 3] <|
 .flat (.v 4) <|
 .op (.un .not) [.v 4] <|
 .ite (.v 5) (.leaf 0) <|
 .blk (
  .op .len [.v 0] <|
  .loop [.c (.int .i64 (0))] (
   .op (.bin .lss) [.v 7, .v 6] <|
   .ite (.v 8) (.op (.idx 3) [.v 0, .v 7] <|
    .op (.elem 0 (some 3)) [.v 0, .v 7] <|
    .op (.sl 3 false true) [.v 0, .v 7] <|
    .op .len [.v 11] <|
    .loop [.c (.int .i64 (0))] (
     .op (.bin .lss) [.v 13, .v 12] <|
     .ite (.v 14) (.op (.idx 3) [.v 11, .v 13] <|
      .op (.elem 0 (some 3)) [.v 11, .v 13] <|
      .call 105 [.node [.cell (.v 10) 0, .cell (.v 10) 1, .cell (.v 10) 2], .node [.cell (.v 16) 0, .cell (.v 16) 1, .cell (.v 16) 2]] <|
      .blk (
       .ite (.cell (.v 17) 1) (.flat (.node [.cell (.cell (.v 17) 0) 0, .cell (.cell (.v 17) 0) 1, .cell (.cell (.v 17) 0) 2]) <|
        .call 87 [.v 0, .fn 106 [.node [.cell (.cell (.v 17) 0) 0, .cell (.cell (.v 17) 0) 1, .cell (.cell (.v 17) 0) 2]] []] <|
        .ite (.v 18) (.op .len [.v 1] <|
         .loop [.c (.int .i64 (0))] (
          .op (.bin .lss) [.v 20, .v 19] <|
          .ite (.v 21) (.op (.idx 3) [.v 1, .v 20] <|
           .op (.elem 0 (some 3)) [.v 1, .v 20] <|
           .call 106 [.node [.cell (.cell (.v 17) 0) 0, .cell (.cell (.v 17) 0) 1, .cell (.cell (.v 17) 0) 2], .node [.cell (.v 23) 0, .cell (.v 23) 1, .cell (.v 23) 2]] <|
           .op (.un .not) [.v 24] <|
           .ite (.v 25) (.leaf 0) <|
           .op (.bin .add) [.v 20, .c (.int .i64 (1))] <|
           .leaf 1) <|
          .leaf 2) [([], some 0), ([.v 26], none), ([], some 1)] [.leaf 0,
          .leaf 1]) <|
        .leaf 2) <|
       .leaf 3) [([], 0), ([], 1), ([], 1), ([], 1)] [.leaf 0,
       .op (.bin .add) [.v 13, .c (.int .i64 (1))] <|
       .leaf 1]) <|
     .leaf 2) [([], some 0), ([.v 18], none), ([], some 1)] [.leaf 0,
     .op (.bin .add) [.v 7, .c (.int .i64 (1))] <|
     .leaf 1]) <|
   .leaf 2) [([], some 0), ([.v 13], none), ([], some 1)] [.leaf 0,
   .leaf 1]) [([.c (.int .u8 (1))], 0), ([.c (.int .u8 (2))], 0)] [.leaf 1],
 [.c (.int .u8 (0)), .v 6], .e⟩
def F87 : Fn := ⟨[none, none],
 .op .len [.v 0] <|
 .loop [.c (.int .i64 (0))] (
  .op (.bin .lss) [.v 3, .v 2] <|
  .ite (.v 4) (.op (.idx 3) [.v 0, .v 3] <|
   .op (.elem 0 (some 3)) [.v 0, .v 3] <|
   .callD (.v 1) [.node [.cell (.v 6) 0, .cell (.v 6) 1, .cell (.v 6) 2]] <|
   .flat (.node [.v 7]) <|
   .op (.un .not) [.v 7] <|
   .ite (.v 8) (.leaf 0) <|
   .op (.bin .add) [.v 3, .c (.int .i64 (1))] <|
   .leaf 1) <|
  .leaf 2) [([], some 0), ([.v 9], none), ([], some 1)] [.leaf 0,
  .leaf 1],
 [.c (.bool false), .c (.bool true)], .e⟩
def F88 : Fn := ⟨[(some 3)],
 .blk (
  .call 99 [.cell (.v 0) 0, .c (.int .i64 (-1000)), .c (.int .i64 (1000))] <|
  .ite (.v 1) (.call 99 [.cell (.v 0) 1, .c (.int .i64 (-1000)), .c (.int .i64 (1000))] <|
   .ite (.v 2) (.op (.bin .neq) [.cell (.v 0) 0, .c (.int .i64 (0))] <|
    .ite (.v 3) (.call 99 [.cell (.v 0) 2, .c (.int .i64 (-100000000000)), .c (.int .i64 (100000000000))] <|
     .leaf 0) <|
    .op (.bin .neq) [.cell (.v 0) 1, .c (.int .i64 (0))] <|
    .ite (.v 4) (.call 99 [.cell (.v 0) 2, .c (.int .i64 (-100000000000)), .c (.int .i64 (100000000000))] <|
     .leaf 1) <|
    .leaf 2) <|
   .leaf 3) <|
  .leaf 4) [([.v 4], 0), ([.v 5], 0), ([.c (.bool false)], 0), ([.c (.bool false)], 0), ([.c (.bool false)], 0)] [.leaf 0],
 [.v 1], .e⟩
def F93 : Fn := ⟨[none, none, none],
 .blk (
  .op (.bin .geq) [.v 0, .v 1] <|
  .ite (.v 3) (.op (.bin .leq) [.v 0, .v 2] <|
   .leaf 0) <|
  .leaf 1) [([.v 4], 0), ([.c (.bool false)], 0)] [.leaf 0],
 [.v 3], .e⟩
def F94 : Fn := ⟨[(some 2), none, none],
 .blk (
  .call 93 [.cell (.v 0) 0, .v 1, .cell (.v 0) 1] <|
  .ite (.v 3) (.op (.bin .leq) [.cell (.v 0) 1, .v 2] <|
   .leaf 0) <|
  .leaf 1) [([.v 4], 0), ([.c (.bool false)], 0)] [.leaf 0],
 [.v 3], .e⟩
def F95 : Fn := ⟨[(some 1)],
 .call 59 [.node [.c (.int .i64 (0)), .c (.int .i64 (0))], .node [.c (.int .i64 (0)), .c (.int .i64 (0))]] <|
 .blk (
  .op .len [.cell (.v 0) 0] <|
  .op .len [.v 1] <|
  .op (.bin .lss) [.v 2, .v 3] <|
  .ite (.v 4) (.leaf 0) <|
  .op .len [.cell (.v 0) 0] <|
  .op (.bin .gtr) [.v 5, .c (.int .i64 (40))] <|
  .ite (.v 6) (.leaf 1) <|
  .call 87 [.cell (.v 0) 0, .fn 88 [] []] <|
  .op (.un .not) [.v 7] <|
  .leaf 2) [([.c (.bool true)], 0), ([.c (.bool true)], 0), ([.v 8], 0)] [.ite (.v 2) (.leaf 0) <|
  .op .len [.v 1] <|
  .loop [.c (.int .i64 (0))] (
   .op (.bin .lss) [.v 4, .v 3] <|
   .ite (.v 5) (.op (.idx 3) [.v 1, .v 4] <|
    .op (.elem 0 (some 3)) [.v 1, .v 4] <|
    .op (.idx 3) [.cell (.v 0) 0, .v 4] <|
    .op (.elem 0 (some 3)) [.cell (.v 0) 0, .v 4] <|
    .blk (
     .op (.bin .neq) [.cell (.v 9) 0, .cell (.v 7) 0] <|
     .ite (.v 10) (.leaf 0) <|
     .op (.bin .neq) [.cell (.v 9) 1, .cell (.v 7) 1] <|
     .leaf 1) [([.c (.bool true)], 0), ([.v 11], 0)] [.ite (.v 10) (.leaf 0) <|
     .op (.bin .add) [.v 4, .c (.int .i64 (1))] <|
     .leaf 1]) <|
   .leaf 2) [([], some 0), ([.v 11], none), ([], some 1)] [.leaf 1,
   .leaf 2]],
 [.c (.bool false), .c (.bool false), .c (.bool true)], .e⟩
def F96 : Fn := ⟨[none, none],
 .blk (
  .call 99 [.v 0, .c (.int .i64 (-10000000)), .c (.int .i64 (10000000))] <|
  .ite (.v 2) (.call 99 [.v 1, .c (.int .i64 (-10000000)), .c (.int .i64 (10000000))] <|
   .leaf 0) <|
  .leaf 1) [([.v 3], 0), ([.c (.bool false)], 0)] [.leaf 0],
 [.v 2], .e⟩
def F97 : Fn := ⟨[(some 2)],
 .blk (
  .call 99 [.cell (.v 0) 0, .c (.int .i64 (-1000)), .c (.int .i64 (1000))] <|
  .ite (.v 1) (.call 99 [.cell (.v 0) 1, .c (.int .i64 (-1000)), .c (.int .i64 (1000))] <|
   .leaf 0) <|
  .leaf 1) [([.v 2], 0), ([.c (.bool false)], 0)] [.leaf 0],
 [.v 1], .e⟩
def F98 : Fn := ⟨[(some 2), (some 2)],
 .op (.bin .mul) [.cell (.v 0) 0, .cell (.v 1) 1] <|
 .op (.bin .mul) [.cell (.v 0) 1, .cell (.v 1) 0] <|
 .op (.bin .sub) [.v 2, .v 3] <|
 .op (.bin .gtr) [.v 4, .c (.int .i64 (0))] <|
 .leaf 0,
 [.v 5], .e⟩
def F99 : Fn := ⟨[none, none, none],
 .blk (
  .op (.bin .leq) [.v 1, .v 0] <|
  .ite (.v 3) (.op (.bin .leq) [.v 0, .v 2] <|
   .leaf 0) <|
  .leaf 1) [([.v 4], 0), ([.c (.bool false)], 0)] [.leaf 0],
 [.v 3], .e⟩
def F101 : Fn := ⟨[(some 10)],
 .op (.un .neg) [.cell (.v 0) 4] <|
 .op (.bin .mul) [.cell (.v 0) 3, .cell (.v 0) 2] <|
 .op (.bin .mul) [.cell (.v 0) 4, .cell (.v 0) 1] <|
 .op (.bin .sub) [.v 2, .v 3] <|
 .op (.un .neg) [.cell (.v 0) 5] <|
 .op (.bin .mul) [.cell (.v 0) 6, .cell (.v 0) 1] <|
 .op (.bin .mul) [.cell (.v 0) 5, .cell (.v 0) 2] <|
 .op (.bin .sub) [.v 6, .v 7] <|
 .op (.listOf 3 2 [.int .i64 (0), .int .i64 (0), .int .i64 (0)] [0, 1]) [.v 1, .cell (.v 0) 3, .v 4, .cell (.v 0) 6, .v 5, .v 8] <|
 .leaf 0,
 [.v 9], .own 3⟩
def F102 : Fn := ⟨[(some 10)],
 .op (.un .neg) [.cell (.v 0) 7] <|
 .op (.listOf 3 2 [.int .i64 (0), .int .i64 (0), .int .i64 (0)] [0, 1]) [.c (.int .i64 (0)), .c (.int .i64 (1)), .cell (.v 0) 8, .c (.int .i64 (0)), .c (.int .i64 (-1)), .v 1] <|
 .leaf 0,
 [.v 2], .own 3⟩
def F103 : Fn := ⟨[(some 10)],
 .op (.bin .sub) [.cell (.v 0) 1, .cell (.v 0) 9] <|
 .op (.bin .add) [.cell (.v 0) 1, .cell (.v 0) 9] <|
 .op (.bin .sub) [.cell (.v 0) 2, .cell (.v 0) 9] <|
 .op (.bin .add) [.cell (.v 0) 2, .cell (.v 0) 9] <|
 .call 59 [.node [.v 1, .v 2], .node [.v 3, .v 4]] <|
 .leaf 0,
 [.v 5], .own 3⟩
def F105 : Fn := ⟨[(some 3), (some 3)],
 .op (.bin .mul) [.cell (.v 0) 2, .cell (.v 1) 1] <|
 .op (.bin .mul) [.cell (.v 1) 2, .cell (.v 0) 1] <|
 .op (.bin .sub) [.v 2, .v 3] <|
 .op (.bin .mul) [.cell (.v 0) 0, .cell (.v 1) 2] <|
 .op (.bin .mul) [.cell (.v 1) 0, .cell (.v 0) 2] <|
 .op (.bin .sub) [.v 5, .v 6] <|
 .op (.bin .mul) [.cell (.v 0) 0, .cell (.v 1) 1] <|
 .op (.bin .mul) [.cell (.v 1) 0, .cell (.v 0) 1] <|
 .op (.bin .sub) [.v 8, .v 9] <|
 .op (.bin .lss) [.v 10, .c (.int .i64 (0))] <|
 .blk (
  .ite (.v 11) (.op (.un .neg) [.v 4] <|
   .op (.un .neg) [.v 7] <|
   .op (.un .neg) [.v 10] <|
   .leaf 0) <|
  .leaf 1) [([.v 12, .v 13, .v 14], 0), ([.v 4, .v 7, .v 10], 0)] [.op (.bin .gtr) [.v 14, .c (.int .i64 (0))] <|
  .leaf 0],
 [.node [.node [.v 12, .v 13, .v 14], .v 15]], .tup [.node [.e, .e, .e], .e]⟩
def F106 : Fn := ⟨[(some 3), (some 3)],
 .op (.bin .mul) [.cell (.v 1) 0, .cell (.v 0) 0] <|
 .op (.bin .mul) [.cell (.v 1) 1, .cell (.v 0) 1] <|
 .op (.bin .add) [.v 2, .v 3] <|
 .op (.bin .mul) [.cell (.v 1) 2, .cell (.v 0) 2] <|
 .op (.bin .leq) [.v 4, .v 5] <|
 .leaf 0,
 [.v 6], .e⟩
def F107 : Fn := ⟨[none],
 .op .len [.v 0] <|
 .op (.bin .lss) [.v 1, .c (.int .i64 (1))] <|
 .ite (.v 2) (.fail) <|
 .op (.idx 1) [.v 0, .c (.int .i64 (0))] <|
 .op (.elem 0 none) [.v 0, .c (.int .i64 (0))] <|
 .loop [.v 4, .c (.int .i64 (1))] (
  .op .len [.v 0] <|
  .op (.bin .lss) [.v 6, .v 7] <|
  .ite (.v 8) (.op (.idx 1) [.v 0, .v 6] <|
   .op (.elem 0 none) [.v 0, .v 6] <|
   .op (.mx false) [.v 5, .v 10] <|
   .op (.bin .add) [.v 6, .c (.int .i64 (1))] <|
   .leaf 0) <|
  .leaf 1) [([.v 11, .v 12], none), ([.v 5], some 0)] [.leaf 0],
 [.v 5], .e⟩
def F108 : Fn := ⟨[none],
 .op .len [.v 0] <|
 .op (.bin .lss) [.v 1, .c (.int .i64 (1))] <|
 .ite (.v 2) (.fail) <|
 .op (.idx 1) [.v 0, .c (.int .i64 (0))] <|
 .op (.elem 0 none) [.v 0, .c (.int .i64 (0))] <|
 .loop [.v 4, .c (.int .i64 (1))] (
  .op .len [.v 0] <|
  .op (.bin .lss) [.v 6, .v 7] <|
  .ite (.v 8) (.op (.idx 1) [.v 0, .v 6] <|
   .op (.elem 0 none) [.v 0, .v 6] <|
   .op (.mx true) [.v 5, .v 10] <|
   .op (.bin .add) [.v 6, .c (.int .i64 (1))] <|
   .leaf 0) <|
  .leaf 1) [([.v 11, .v 12], none), ([.v 5], some 0)] [.leaf 0],
 [.v 5], .e⟩
def FN (f : FuncId) : Option Fn :=
  match f with
  | 4 => some F4
  | 18 => some F18
  | 19 => some F19
  | 20 => some F20
  | 21 => some F21
  | 22 => some F22
  | 23 => some F23
  | 24 => some F24
  | 25 => some F25
  | 26 => some F26
  | 27 => some F27
  | 57 => some F57
  | 58 => some F58
  | 59 => some F59
  | 60 => some F60
  | 61 => some F61
  | 62 => some F62
  | 63 => some F63
  | 64 => some F64
  | 66 => some F66
  | 67 => some F67
  | 68 => some F68
  | 69 => some F69
  | 87 => some F87
  | 88 => some F88
  | 93 => some F93
  | 94 => some F94
  | 95 => some F95
  | 96 => some F96
  | 97 => some F97
  | 98 => some F98
  | 99 => some F99
  | 101 => some F101
  | 102 => some F102
  | 103 => some F103
  | 105 => some F105
  | 106 => some F106
  | 107 => some F107
  | 108 => some F108
  | _ => none
end Go.Q
