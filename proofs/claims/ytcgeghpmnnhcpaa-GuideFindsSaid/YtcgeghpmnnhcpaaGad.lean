/- The functions as trees. -/
import Derived.Test.YtcgeghpmnnhcpaaJL
import Derived.Test.YtcgeghpmnnhcpaaChecked
set_option linter.unusedVariables false
set_option maxRecDepth 100000
namespace Go.Q
open Go.V
open Go.Proofs.Try (prog)
def isRef (f : FuncId) : Bool := [99, 104, 55, 101, 62, 92, 48, 88].contains f
def dmR (f : FuncId) : Nat := ([((0 : FuncId), 0)].find? (·.1 == f)).elim 0 (·.2)
noncomputable def TP : FuncId → Option IFn := fun f => cFnD prog (isRef f) (dmR f) f
theorem cFn_ref {P : Program} {b : Bool} {dm : Nat} {f : FuncId} {fn : IFn} (h : cFnD P b dm f = some fn) : fn.byref = b ∧ fn.dm = dm := by
  unfold cFnD at h
  split at h
  · cases h
  · split at h
    · cases h
    · split at h
      · cases h
      · split at h
        · cases h; exact ⟨rfl, rfl⟩
        · cases h
theorem TP_ok : TOK prog TP := fun f fn h => by
  obtain ⟨h1, h2⟩ := cFn_ref h
  rw [h1, h2]; exact h
theorem mixed : prog.follows .mixedOrders = true := by kernel_rfl
def F8 : Fn := ⟨[(some 1)],
 .call 14 [] <|
 .op (.un .not) [.v 1] <|
 .ite (.v 2) (.leaf 0) <|
 .blk (
  .call 34 [.node [.cell (.v 0) 0]] <|
  .op (.bin .neq) [.v 3, .c (.int .i64 (0))] <|
  .ite (.v 4) (.leaf 0) <|
  .op .len [.cell (.v 0) 0] <|
  .op (.bin .eql) [.v 5, .c (.int .i64 (40))] <|
  .leaf 1) [([.c (.bool true)], 0), ([.v 6], 0)] [.ite (.v 3) (.leaf 1) <|
  .call 19 [.node [.cell (.v 0) 0]] <|
  .op (.bin .neq) [.cell (.v 4) 2, .c (.int .i64 (0))] <|
  .ite (.v 5) (.blk (
    .ite (.v 1) (.op (.bin .eql) [.cell (.v 4) 2, .c (.int .i64 (43))] <|
     .ite (.v 6) (.op (.eqv false [false, false]) [.cell (.cell (.v 4) 0) 0, .cell (.cell (.v 4) 0) 1, .c (.int .i64 (0)), .c (.int .i64 (0))] <|
      .ite (.v 7) (.op (.eqv false [false, false]) [.cell (.cell (.v 4) 1) 0, .cell (.cell (.v 4) 1) 1, .c (.int .i64 (0)), .c (.int .i64 (0))] <|
       .leaf 0) <|
      .leaf 1) <|
     .leaf 2) <|
    .leaf 3) [([.v 8], 0), ([.c (.bool false)], 0), ([.c (.bool false)], 0), ([.c (.bool false)], 0)] [.leaf 2]) <|
  .blk (
   .op (.bin .gtr) [.cell (.cell (.v 4) 0) 0, .cell (.cell (.v 4) 0) 1] <|
   .ite (.v 6) (.leaf 0) <|
   .op (.bin .gtr) [.cell (.cell (.v 4) 1) 0, .cell (.cell (.v 4) 1) 1] <|
   .leaf 1) [([.c (.bool true)], 0), ([.v 7], 0)] [.ite (.v 6) (.leaf 3) <|
   .op (.bin .sub) [.cell (.cell (.v 4) 0) 1, .c (.int .i64 (1))] <|
   .op (.un .neg) [.v 7] <|
   .op (.bin .add) [.cell (.cell (.v 4) 0) 1, .c (.int .i64 (1))] <|
   .op (.un .neg) [.v 9] <|
   .op (.bin .add) [.cell (.cell (.v 4) 0) 0, .c (.int .i64 (1))] <|
   .op (.bin .sub) [.cell (.cell (.v 4) 0) 0, .c (.int .i64 (1))] <|
   .op (.bin .sub) [.cell (.cell (.v 4) 1) 1, .c (.int .i64 (1))] <|
   .op (.un .neg) [.v 13] <|
   .op (.bin .add) [.cell (.cell (.v 4) 1) 1, .c (.int .i64 (1))] <|
   .op (.un .neg) [.v 15] <|
   .op (.bin .add) [.cell (.cell (.v 4) 1) 0, .c (.int .i64 (1))] <|
   .op (.bin .sub) [.cell (.cell (.v 4) 1) 0, .c (.int .i64 (1))] <|
   .op (.listOf 4 8 [.int .i64 (0), .int .i64 (0), .int .i64 (0), .bool false] [0, 1, 2, 3, 4, 5, 6, 7]) [.c (.int .i64 (-1)), .c (.int .i64 (0)), .v 8, .c (.bool true), .c (.int .i64 (-1)), .c (.int .i64 (0)), .v 10, .c (.bool false), .c (.int .i64 (1)), .c (.int .i64 (0)), .v 11, .c (.bool true), .c (.int .i64 (1)), .c (.int .i64 (0)), .v 12, .c (.bool false), .c (.int .i64 (0)), .c (.int .i64 (-1)), .v 14, .c (.bool true), .c (.int .i64 (0)), .c (.int .i64 (-1)), .v 16, .c (.bool false), .c (.int .i64 (0)), .c (.int .i64 (1)), .v 17, .c (.bool true), .c (.int .i64 (0)), .c (.int .i64 (1)), .v 18, .c (.bool false)] <|
   .op .len [.v 19] <|
   .loop [.c (.int .i64 (0))] (
    .op (.bin .lss) [.v 21, .v 20] <|
    .ite (.v 22) (.blk (
      .op (.idx 4) [.v 19, .v 21] <|
      .op (.elem 0 (some 4)) [.v 19, .v 21] <|
      .op (.un .neg) [.cell (.v 24) 2] <|
      .op (.mx true) [.cell (.v 24) 2, .v 25] <|
      .op (.bin .gtr) [.v 26, .c (.int .i64 (100000000000))] <|
      .ite (.v 27) (.leaf 0) <|
      .call 30 [.node [.cell (.v 0) 0]] <|
      .op (.listOf 3 1 [.int .i64 (0), .int .i64 (0), .int .i64 (0)] [0]) [.cell (.v 24) 0, .cell (.v 24) 1, .cell (.v 24) 2] <|
      .op (.app 3 24) [.cell (.v 28) 0, .v 29] <|
      .call 19 [.node [.v 30]] <|
      .flat (.cell (.cell (.v 31) 0) 0) <|
      .flat (.cell (.cell (.v 31) 0) 1) <|
      .flat (.cell (.cell (.v 31) 1) 0) <|
      .flat (.cell (.cell (.v 31) 1) 1) <|
      .flat (.cell (.v 31) 2) <|
      .blk (
       .op (.bin .neq) [.cell (.v 31) 2, .c (.int .i64 (0))] <|
       .ite (.v 32) (.op (.bin .neq) [.cell (.v 31) 2, .c (.int .i64 (43))] <|
        .ite (.v 33) (.leaf 0) <|
        .op (.bin .eql) [.cell (.v 31) 2, .c (.int .i64 (0))] <|
        .op (.eqv true [true]) [.v 34, .cell (.v 24) 3] <|
        .leaf 1) <|
       .op (.bin .eql) [.cell (.v 31) 2, .c (.int .i64 (0))] <|
       .op (.eqv true [true]) [.v 33, .cell (.v 24) 3] <|
       .leaf 2) [([.c (.bool true)], 0), ([.v 35], 0), ([.v 34], 0)] [.ite (.v 32) (.leaf 1) <|
       .leaf 2]) [([], 0), ([], 1), ([], 0)] [.op (.bin .add) [.v 21, .c (.int .i64 (1))] <|
      .leaf 0,
      .leaf 1]) <|
    .leaf 2) [([.v 23], none), ([], some 0), ([], some 1)] [.leaf 4,
    .leaf 5]]],
 [.c (.bool false), .v 1, .v 6, .c (.bool false), .c (.bool false), .v 1], .e⟩
def F9 : Fn := ⟨[(some 1), (some 10), (some 10)],
 .call 14 [] <|
 .op (.un .not) [.v 3] <|
 .ite (.v 4) (.leaf 0) <|
 .blk (
  .call 34 [.node [.cell (.v 0) 0]] <|
  .op (.bin .neq) [.v 5, .c (.int .i64 (0))] <|
  .ite (.v 6) (.leaf 0) <|
  .call 42 [.node [.cell (.v 1) 0, .cell (.v 1) 1, .cell (.v 1) 2, .cell (.v 1) 3, .cell (.v 1) 4, .cell (.v 1) 5, .cell (.v 1) 6, .cell (.v 1) 7, .cell (.v 1) 8, .cell (.v 1) 9]] <|
  .op (.un .not) [.v 7] <|
  .ite (.v 8) (.leaf 1) <|
  .call 42 [.node [.cell (.v 2) 0, .cell (.v 2) 1, .cell (.v 2) 2, .cell (.v 2) 3, .cell (.v 2) 4, .cell (.v 2) 5, .cell (.v 2) 6, .cell (.v 2) 7, .cell (.v 2) 8, .cell (.v 2) 9]] <|
  .op (.un .not) [.v 9] <|
  .ite (.v 10) (.leaf 2) <|
  .op .len [.cell (.v 0) 0] <|
  .op (.bin .gtr) [.v 11, .c (.int .i64 (28))] <|
  .leaf 3) [([.c (.bool true)], 0), ([.c (.bool true)], 0), ([.c (.bool true)], 0), ([.v 12], 0)] [.ite (.v 5) (.leaf 1) <|
  .call 19 [.node [.cell (.v 0) 0]] <|
  .call 15 [.node [.cell (.v 0) 0], .node [.cell (.v 1) 0, .cell (.v 1) 1, .cell (.v 1) 2, .cell (.v 1) 3, .cell (.v 1) 4, .cell (.v 1) 5, .cell (.v 1) 6, .cell (.v 1) 7, .cell (.v 1) 8, .cell (.v 1) 9]] <|
  .call 15 [.node [.cell (.v 0) 0], .node [.cell (.v 2) 0, .cell (.v 2) 1, .cell (.v 2) 2, .cell (.v 2) 3, .cell (.v 2) 4, .cell (.v 2) 5, .cell (.v 2) 6, .cell (.v 2) 7, .cell (.v 2) 8, .cell (.v 2) 9]] <|
  .op (.bin .neq) [.cell (.v 6) 2, .c (.int .i64 (0))] <|
  .ite (.v 9) (.blk (
    .ite (.v 3) (.op (.bin .eql) [.cell (.v 6) 2, .c (.int .i64 (43))] <|
     .ite (.v 10) (.op (.bin .eql) [.cell (.v 7) 1, .c (.int .i64 (43))] <|
      .ite (.v 11) (.op (.bin .eql) [.cell (.v 8) 1, .c (.int .i64 (43))] <|
       .leaf 0) <|
      .leaf 1) <|
     .leaf 2) <|
    .leaf 3) [([.v 12], 0), ([.c (.bool false)], 0), ([.c (.bool false)], 0), ([.c (.bool false)], 0)] [.leaf 2]) <|
  .blk (
   .op (.bin .neq) [.cell (.v 7) 1, .c (.int .i64 (0))] <|
   .ite (.v 10) (.leaf 0) <|
   .op (.bin .neq) [.cell (.v 8) 1, .c (.int .i64 (0))] <|
   .leaf 1) [([.c (.bool true)], 0), ([.v 11], 0)] [.ite (.v 10) (.blk (
     .ite (.v 3) (.op (.bin .eql) [.cell (.v 7) 1, .c (.int .i64 (0))] <|
      .ite (.v 11) (.op (.bin .eql) [.cell (.v 8) 1, .c (.int .i64 (0))] <|
       .ite (.v 12) (.leaf 0) <|
       .op (.bin .eql) [.cell (.v 8) 1, .c (.int .i64 (43))] <|
       .leaf 1) <|
      .op (.bin .eql) [.cell (.v 7) 1, .c (.int .i64 (43))] <|
      .ite (.v 12) (.op (.bin .eql) [.cell (.v 8) 1, .c (.int .i64 (0))] <|
       .ite (.v 13) (.leaf 2) <|
       .op (.bin .eql) [.cell (.v 8) 1, .c (.int .i64 (43))] <|
       .leaf 3) <|
      .leaf 4) <|
     .leaf 5) [([.c (.bool true)], 0), ([.v 13], 0), ([.c (.bool true)], 0), ([.v 14], 0), ([.c (.bool false)], 0), ([.c (.bool false)], 0)] [.leaf 3]) <|
   .call 19 [.node [.cell (.cell (.v 7) 0) 0]] <|
   .flat (.cell (.cell (.v 11) 0) 0) <|
   .flat (.cell (.cell (.v 11) 0) 1) <|
   .flat (.cell (.cell (.v 11) 1) 0) <|
   .flat (.cell (.cell (.v 11) 1) 1) <|
   .flat (.cell (.v 11) 2) <|
   .call 15 [.node [.cell (.cell (.v 7) 0) 0], .node [.cell (.v 2) 0, .cell (.v 2) 1, .cell (.v 2) 2, .cell (.v 2) 3, .cell (.v 2) 4, .cell (.v 2) 5, .cell (.v 2) 6, .cell (.v 2) 7, .cell (.v 2) 8, .cell (.v 2) 9]] <|
   .flat (.cell (.v 12) 1) <|
   .shal 1 (.cell (.cell (.v 12) 0) 0) <|
   .call 15 [.node [.cell (.cell (.v 8) 0) 0], .node [.cell (.v 1) 0, .cell (.v 1) 1, .cell (.v 1) 2, .cell (.v 1) 3, .cell (.v 1) 4, .cell (.v 1) 5, .cell (.v 1) 6, .cell (.v 1) 7, .cell (.v 1) 8, .cell (.v 1) 9]] <|
   .flat (.cell (.v 13) 1) <|
   .shal 1 (.cell (.cell (.v 13) 0) 0) <|
   .blk (
    .op (.bin .neq) [.cell (.v 11) 2, .c (.int .i64 (0))] <|
    .ite (.v 14) (.leaf 0) <|
    .call 47 [.node [.cell (.cell (.v 11) 0) 0, .cell (.cell (.v 11) 0) 1], .node [.cell (.cell (.v 6) 0) 0, .cell (.cell (.v 6) 0) 1]] <|
    .op (.un .not) [.v 15] <|
    .ite (.v 16) (.leaf 1) <|
    .call 47 [.node [.cell (.cell (.v 11) 1) 0, .cell (.cell (.v 11) 1) 1], .node [.cell (.cell (.v 6) 1) 0, .cell (.cell (.v 6) 1) 1]] <|
    .op (.un .not) [.v 17] <|
    .ite (.v 18) (.leaf 2) <|
    .op (.bin .neq) [.cell (.v 12) 1, .cell (.v 13) 1] <|
    .leaf 3) [([.c (.bool true)], 0), ([.c (.bool true)], 0), ([.c (.bool true)], 0), ([.v 19], 0)] [.ite (.v 14) (.leaf 4) <|
    .call 15 [.node [.cell (.cell (.v 7) 0) 0], .node [.cell (.v 1) 0, .cell (.v 1) 1, .cell (.v 1) 2, .cell (.v 1) 3, .cell (.v 1) 4, .cell (.v 1) 5, .cell (.v 1) 6, .cell (.v 1) 7, .cell (.v 1) 8, .cell (.v 1) 9]] <|
    .flat (.cell (.v 15) 1) <|
    .shal 1 (.cell (.cell (.v 15) 0) 0) <|
    .call 19 [.node [.cell (.cell (.v 15) 0) 0]] <|
    .flat (.cell (.cell (.v 16) 0) 0) <|
    .flat (.cell (.cell (.v 16) 0) 1) <|
    .flat (.cell (.cell (.v 16) 1) 0) <|
    .flat (.cell (.cell (.v 16) 1) 1) <|
    .flat (.cell (.v 16) 2) <|
    .blk (
     .op (.bin .neq) [.cell (.v 15) 1, .c (.int .i64 (0))] <|
     .ite (.v 17) (.leaf 0) <|
     .op (.bin .neq) [.cell (.v 16) 2, .c (.int .i64 (0))] <|
     .ite (.v 18) (.leaf 1) <|
     .op (.eqv true [false, false]) [.cell (.cell (.v 16) 0) 0, .cell (.cell (.v 16) 0) 1, .cell (.cell (.v 11) 0) 0, .cell (.cell (.v 11) 0) 1] <|
     .ite (.v 19) (.leaf 2) <|
     .op (.eqv true [false, false]) [.cell (.cell (.v 16) 1) 0, .cell (.cell (.v 16) 1) 1, .cell (.cell (.v 11) 1) 0, .cell (.cell (.v 11) 1) 1] <|
     .leaf 3) [([.c (.bool true)], 0), ([.c (.bool true)], 0), ([.c (.bool true)], 0), ([.v 20], 0)] [.ite (.v 17) (.leaf 5) <|
     .op (.bin .neq) [.cell (.v 12) 1, .c (.int .i64 (0))] <|
     .ite (.v 18) (.blk (
       .ite (.v 3) (.op (.bin .eql) [.cell (.v 12) 1, .c (.int .i64 (43))] <|
        .leaf 0) <|
       .leaf 1) [([.v 19], 0), ([.c (.bool false)], 0)] [.leaf 6]) <|
     .call 19 [.node [.cell (.cell (.v 12) 0) 0]] <|
     .flat (.cell (.cell (.v 19) 0) 0) <|
     .flat (.cell (.cell (.v 19) 0) 1) <|
     .flat (.cell (.cell (.v 19) 1) 0) <|
     .flat (.cell (.cell (.v 19) 1) 1) <|
     .flat (.cell (.v 19) 2) <|
     .call 19 [.node [.cell (.cell (.v 13) 0) 0]] <|
     .flat (.cell (.cell (.v 20) 0) 0) <|
     .flat (.cell (.cell (.v 20) 0) 1) <|
     .flat (.cell (.cell (.v 20) 1) 0) <|
     .flat (.cell (.cell (.v 20) 1) 1) <|
     .flat (.cell (.v 20) 2) <|
     .blk (
      .ite (.v 3) (.op (.bin .eql) [.cell (.v 19) 2, .c (.int .i64 (0))] <|
       .ite (.v 21) (.op (.bin .eql) [.cell (.v 20) 2, .c (.int .i64 (0))] <|
        .ite (.v 22) (.op (.eqv false [false, false]) [.cell (.cell (.v 19) 0) 0, .cell (.cell (.v 19) 0) 1, .cell (.cell (.v 20) 0) 0, .cell (.cell (.v 20) 0) 1] <|
         .ite (.v 23) (.op (.eqv false [false, false]) [.cell (.cell (.v 19) 1) 0, .cell (.cell (.v 19) 1) 1, .cell (.cell (.v 20) 1) 0, .cell (.cell (.v 20) 1) 1] <|
          .ite (.v 24) (.call 47 [.node [.cell (.cell (.v 19) 0) 0, .cell (.cell (.v 19) 0) 1], .node [.cell (.cell (.v 11) 0) 0, .cell (.cell (.v 11) 0) 1]] <|
           .ite (.v 25) (.call 47 [.node [.cell (.cell (.v 19) 1) 0, .cell (.cell (.v 19) 1) 1], .node [.cell (.cell (.v 11) 1) 0, .cell (.cell (.v 11) 1) 1]] <|
            .leaf 0) <|
           .leaf 1) <|
          .leaf 2) <|
         .leaf 3) <|
        .leaf 4) <|
       .leaf 5) <|
      .leaf 6) [([.v 26], 0), ([.c (.bool false)], 0), ([.c (.bool false)], 0), ([.c (.bool false)], 0), ([.c (.bool false)], 0), ([.c (.bool false)], 0), ([.c (.bool false)], 0)] [.leaf 7]]]]],
 [.c (.bool false), .v 3, .v 10, .v 11, .c (.bool false), .c (.bool false), .v 19, .v 21], .e⟩
def F11 : Fn := ⟨[(some 1), none, none, none],
 .call 14 [] <|
 .op (.un .not) [.v 4] <|
 .ite (.v 5) (.leaf 0) <|
 .blk (
  .call 34 [.node [.cell (.v 0) 0]] <|
  .op (.bin .neq) [.v 6, .c (.int .i64 (0))] <|
  .ite (.v 7) (.leaf 0) <|
  .op (.un .neg) [.v 1] <|
  .op (.un .neg) [.v 2] <|
  .op (.mx true) [.v 1, .v 8, .v 2, .v 9] <|
  .op (.bin .gtr) [.v 10, .c (.int .i64 (10000000))] <|
  .ite (.v 11) (.leaf 1) <|
  .op (.mx false) [.v 1, .v 2] <|
  .op (.bin .lss) [.v 12, .c (.int .i64 (-10000000))] <|
  .ite (.v 13) (.leaf 2) <|
  .op (.bin .lss) [.v 3, .c (.int .i64 (0))] <|
  .ite (.v 14) (.leaf 3) <|
  .op (.bin .gtr) [.v 3, .c (.int .i64 (10000000))] <|
  .leaf 4) [([.c (.bool true)], 0), ([.c (.bool true)], 0), ([.c (.bool true)], 0), ([.c (.bool true)], 0), ([.v 15], 0)] [.ite (.v 6) (.leaf 1) <|
  .call 19 [.node [.cell (.v 0) 0]] <|
  .call 20 [.node [.cell (.v 0) 0], .v 1, .v 2, .v 3] <|
  .op (.bin .neq) [.cell (.v 7) 2, .c (.int .i64 (0))] <|
  .ite (.v 9) (.blk (
    .ite (.v 4) (.op (.bin .eql) [.cell (.v 7) 2, .c (.int .i64 (43))] <|
     .ite (.v 10) (.op (.bin .eql) [.cell (.v 8) 1, .c (.int .i64 (43))] <|
      .leaf 0) <|
     .leaf 1) <|
    .leaf 2) [([.v 11], 0), ([.c (.bool false)], 0), ([.c (.bool false)], 0)] [.leaf 2]) <|
  .blk (
   .op (.bin .sub) [.v 1, .v 3] <|
   .op (.bin .geq) [.cell (.cell (.v 7) 0) 0, .v 10] <|
   .ite (.v 11) (.op (.bin .add) [.v 1, .v 3] <|
    .op (.bin .leq) [.cell (.cell (.v 7) 0) 1, .v 12] <|
    .ite (.v 13) (.op (.bin .sub) [.v 2, .v 3] <|
     .op (.bin .geq) [.cell (.cell (.v 7) 1) 0, .v 14] <|
     .ite (.v 15) (.op (.bin .add) [.v 2, .v 3] <|
      .op (.bin .leq) [.cell (.cell (.v 7) 1) 1, .v 16] <|
      .leaf 0) <|
     .leaf 1) <|
    .leaf 2) <|
   .leaf 3) [([.v 17], 0), ([.c (.bool false)], 0), ([.c (.bool false)], 0), ([.c (.bool false)], 0)] [.blk (
    .op (.bin .neq) [.cell (.v 8) 1, .c (.int .i64 (0))] <|
    .ite (.v 11) (.leaf 0) <|
    .op (.bin .eql) [.cell (.v 8) 0, .c (.int .u8 (2))] <|
    .op (.eqv true [true]) [.v 12, .v 10] <|
    .ite (.v 13) (.leaf 1) <|
    .op (.bin .gtr) [.cell (.v 8) 0, .c (.int .u8 (2))] <|
    .leaf 2) [([.c (.bool true)], 0), ([.c (.bool true)], 0), ([.v 14], 0)] [.ite (.v 11) (.leaf 3) <|
    .call 15 [.node [.cell (.v 0) 0], .node [.c (.int .u8 (3)), .v 1, .v 2, .c (.int .i64 (0)), .c (.int .i64 (0)), .c (.int .i64 (0)), .c (.int .i64 (0)), .c (.int .i64 (0)), .c (.int .i64 (0)), .v 3]] <|
    .blk (
     .ite (.v 4) (.op (.bin .eql) [.cell (.v 12) 1, .c (.int .i64 (9))] <|
      .ite (.v 13) (.leaf 0) <|
      .op (.bin .eql) [.cell (.v 12) 1, .c (.int .i64 (43))] <|
      .op (.bin .eql) [.cell (.v 8) 0, .c (.int .u8 (0))] <|
      .op (.eqv false [true]) [.v 14, .v 15] <|
      .leaf 1) <|
     .leaf 2) [([.c (.bool true)], 0), ([.v 16], 0), ([.c (.bool false)], 0)] [.leaf 4]]]],
 [.c (.bool false), .v 4, .v 10, .c (.bool false), .v 13], .e⟩
def F12 : Fn := ⟨[(some 1), (some 6), (some 2), none],
 .call 14 [] <|
 .op (.un .not) [.v 4] <|
 .ite (.v 5) (.leaf 0) <|
 .blk (
  .call 34 [.node [.cell (.v 0) 0]] <|
  .op (.bin .neq) [.v 6, .c (.int .i64 (0))] <|
  .ite (.v 7) (.leaf 0) <|
  .call 45 [.node [.cell (.v 1) 0, .cell (.v 1) 1, .cell (.v 1) 2, .cell (.v 1) 3, .cell (.v 1) 4, .cell (.v 1) 5]] <|
  .op (.un .not) [.v 8] <|
  .leaf 1) [([.c (.bool true)], 0), ([.v 9], 0)] [.ite (.v 6) (.leaf 1) <|
  .call 25 [.node [.cell (.v 0) 0], .node [.cell (.v 1) 0, .cell (.v 1) 1, .cell (.v 1) 2, .cell (.v 1) 3, .cell (.v 1) 4, .cell (.v 1) 5]] <|
  .op (.bin .neq) [.cell (.v 7) 1, .c (.int .i64 (0))] <|
  .ite (.v 8) (.blk (
    .ite (.v 4) (.op (.bin .eql) [.cell (.v 7) 1, .c (.int .i64 (9))] <|
     .ite (.v 9) (.leaf 0) <|
     .op (.bin .eql) [.cell (.v 7) 1, .c (.int .i64 (43))] <|
     .leaf 1) <|
    .leaf 2) [([.c (.bool true)], 0), ([.v 10], 0), ([.c (.bool false)], 0)] [.leaf 2]) <|
  .call 44 [.v 3, .c (.int .i64 (0))] <|
  .call 44 [.v 3, .c (.int .i64 (1))] <|
  .call 49 [.node [.cell (.v 1) 0, .cell (.v 1) 1], .v 9, .v 10] <|
  .call 44 [.v 3, .c (.int .i64 (2))] <|
  .call 44 [.v 3, .c (.int .i64 (3))] <|
  .call 49 [.node [.cell (.v 1) 2, .cell (.v 1) 3], .v 12, .v 13] <|
  .call 44 [.v 3, .c (.int .i64 (4))] <|
  .call 44 [.v 3, .c (.int .i64 (5))] <|
  .call 49 [.node [.cell (.v 1) 4, .cell (.v 1) 5], .v 15, .v 16] <|
  .call 25 [.node [.cell (.v 0) 0], .node [.cell (.v 11) 0, .cell (.v 11) 1, .cell (.v 14) 0, .cell (.v 14) 1, .cell (.v 17) 0, .cell (.v 17) 1]] <|
  .op (.bin .eql) [.cell (.v 18) 1, .c (.int .i64 (0))] <|
  .blk (
   .ite (.v 19) (.call 19 [.node [.cell (.cell (.v 7) 0) 0]] <|
    .flat (.cell (.cell (.v 20) 0) 0) <|
    .flat (.cell (.cell (.v 20) 0) 1) <|
    .flat (.cell (.cell (.v 20) 1) 0) <|
    .flat (.cell (.cell (.v 20) 1) 1) <|
    .flat (.cell (.v 20) 2) <|
    .call 19 [.node [.cell (.cell (.v 18) 0) 0]] <|
    .flat (.cell (.cell (.v 21) 0) 0) <|
    .flat (.cell (.cell (.v 21) 0) 1) <|
    .flat (.cell (.cell (.v 21) 1) 0) <|
    .flat (.cell (.cell (.v 21) 1) 1) <|
    .flat (.cell (.v 21) 2) <|
    .blk (
     .op (.bin .neq) [.cell (.v 20) 2, .c (.int .i64 (0))] <|
     .ite (.v 22) (.leaf 0) <|
     .op (.bin .neq) [.cell (.v 21) 2, .c (.int .i64 (0))] <|
     .ite (.v 23) (.leaf 1) <|
     .call 47 [.node [.cell (.cell (.v 21) 0) 0, .cell (.cell (.v 21) 0) 1], .node [.cell (.cell (.v 20) 0) 0, .cell (.cell (.v 20) 0) 1]] <|
     .op (.un .not) [.v 24] <|
     .ite (.v 25) (.leaf 2) <|
     .call 47 [.node [.cell (.cell (.v 21) 1) 0, .cell (.cell (.v 21) 1) 1], .node [.cell (.cell (.v 20) 1) 0, .cell (.cell (.v 20) 1) 1]] <|
     .op (.un .not) [.v 26] <|
     .leaf 3) [([.c (.bool true)], 0), ([.c (.bool true)], 0), ([.c (.bool true)], 0), ([.v 27], 0)] [.ite (.v 22) (.leaf 0) <|
     .leaf 1]) <|
   .op (.bin .neq) [.cell (.v 18) 1, .c (.int .i64 (9))] <|
   .ite (.v 20) (.leaf 2) <|
   .leaf 3) [([], 0), ([], 1), ([], 0), ([], 1)] [.leaf 3,
   .blk (
    .op (.bin .lss) [.cell (.v 2) 0, .c (.int .i64 (0))] <|
    .ite (.v 20) (.leaf 0) <|
    .op (.bin .gtr) [.cell (.v 2) 0, .cell (.v 2) 1] <|
    .ite (.v 21) (.leaf 1) <|
    .op (.bin .sub) [.c (.int .i64 (60)), .cell (.v 1) 1] <|
    .op (.bin .gtr) [.cell (.v 2) 1, .v 22] <|
    .leaf 2) [([.c (.bool true)], 0), ([.c (.bool true)], 0), ([.v 23], 0)] [.ite (.v 20) (.leaf 4) <|
    .op (.bin .add) [.cell (.v 1) 0, .cell (.v 2) 0] <|
    .op (.bin .add) [.cell (.v 1) 1, .cell (.v 2) 1] <|
    .call 23 [.v 21, .v 22] <|
    .call 25 [.node [.cell (.cell (.v 7) 0) 0], .node [.cell (.v 2) 0, .cell (.v 2) 1, .cell (.v 1) 2, .cell (.v 1) 3, .cell (.v 1) 4, .cell (.v 1) 5]] <|
    .flat (.cell (.v 24) 1) <|
    .shal 1 (.cell (.cell (.v 24) 0) 0) <|
    .call 25 [.node [.cell (.v 0) 0], .node [.cell (.v 23) 0, .cell (.v 23) 1, .cell (.v 1) 2, .cell (.v 1) 3, .cell (.v 1) 4, .cell (.v 1) 5]] <|
    .blk (
     .op (.bin .neq) [.cell (.v 24) 1, .c (.int .i64 (0))] <|
     .ite (.v 26) (.leaf 0) <|
     .op (.bin .neq) [.cell (.v 25) 1, .c (.int .i64 (0))] <|
     .leaf 1) [([.c (.bool true)], 0), ([.v 27], 0)] [.ite (.v 26) (.blk (
       .ite (.v 4) (.op (.bin .eql) [.cell (.v 24) 1, .c (.int .i64 (0))] <|
        .ite (.v 27) (.op (.bin .eql) [.cell (.v 25) 1, .c (.int .i64 (0))] <|
         .ite (.v 28) (.leaf 0) <|
         .op (.bin .eql) [.cell (.v 25) 1, .c (.int .i64 (9))] <|
         .leaf 1) <|
        .op (.bin .eql) [.cell (.v 24) 1, .c (.int .i64 (9))] <|
        .ite (.v 28) (.op (.bin .eql) [.cell (.v 25) 1, .c (.int .i64 (0))] <|
         .ite (.v 29) (.leaf 2) <|
         .op (.bin .eql) [.cell (.v 25) 1, .c (.int .i64 (9))] <|
         .leaf 3) <|
        .leaf 4) <|
       .leaf 5) [([.c (.bool true)], 0), ([.v 29], 0), ([.c (.bool true)], 0), ([.v 30], 0), ([.c (.bool false)], 0), ([.c (.bool false)], 0)] [.leaf 5]) <|
     .blk (
      .ite (.v 4) (.call 18 [.node [.cell (.cell (.v 24) 0) 0], .node [.cell (.cell (.v 25) 0) 0]] <|
       .flat (.v 27) <|
       .leaf 0) <|
      .leaf 1) [([.v 27], 0), ([.c (.bool false)], 0)] [.leaf 6]]]]],
 [.c (.bool false), .v 4, .v 9, .c (.bool false), .v 4, .v 27, .v 27], .e⟩
def F13 : Fn := ⟨[(some 1), none, none, none, none, none, none, none],
 .call 14 [] <|
 .op (.un .not) [.v 8] <|
 .ite (.v 9) (.leaf 0) <|
 .blk (
  .call 34 [.node [.cell (.v 0) 0]] <|
  .op (.bin .neq) [.v 10, .c (.int .i64 (0))] <|
  .ite (.v 11) (.leaf 0) <|
  .op .len [.v 1] <|
  .op (.bin .gtr) [.v 12, .c (.int .i64 (60))] <|
  .ite (.v 13) (.leaf 1) <|
  .op (.un .neg) [.v 2] <|
  .op (.un .neg) [.v 3] <|
  .op (.mx true) [.v 2, .v 14, .v 3, .v 15] <|
  .op (.bin .gtr) [.v 16, .c (.int .i64 (10000000))] <|
  .ite (.v 17) (.leaf 2) <|
  .op (.mx false) [.v 2, .v 3] <|
  .op (.bin .lss) [.v 18, .c (.int .i64 (-10000000))] <|
  .ite (.v 19) (.leaf 3) <|
  .op (.bin .lss) [.v 4, .c (.int .i64 (0))] <|
  .ite (.v 20) (.leaf 4) <|
  .op (.bin .gtr) [.v 4, .c (.int .i64 (10000000))] <|
  .leaf 5) [([.c (.bool true)], 0), ([.c (.bool true)], 0), ([.c (.bool true)], 0), ([.c (.bool true)], 0), ([.c (.bool true)], 0), ([.v 21], 0)] [.ite (.v 10) (.leaf 1) <|
  .call 21 [.node [.cell (.v 0) 0], .v 1, .v 2, .v 3, .v 4] <|
  .op .len [.v 1] <|
  .loop [.c (.int .i64 (0))] (
   .op (.bin .lss) [.v 13, .v 12] <|
   .ite (.v 14) (.op (.idx 6) [.v 1, .v 13] <|
    .op (.elem 0 (some 6)) [.v 1, .v 13] <|
    .call 45 [.node [.cell (.v 16) 0, .cell (.v 16) 1, .cell (.v 16) 2, .cell (.v 16) 3, .cell (.v 16) 4, .cell (.v 16) 5]] <|
    .op (.un .not) [.v 17] <|
    .ite (.v 18) (.blk (
      .ite (.v 8) (.op (.bin .eql) [.cell (.v 11) 2, .c (.int .i64 (42))] <|
       .ite (.v 19) (.leaf 0) <|
       .op (.bin .eql) [.cell (.v 11) 2, .c (.int .i64 (43))] <|
       .leaf 1) <|
      .leaf 2) [([.c (.bool true)], 0), ([.v 20], 0), ([.c (.bool false)], 0)] [.leaf 0]) <|
    .op (.bin .add) [.v 13, .c (.int .i64 (1))] <|
    .leaf 1) <|
   .leaf 2) [([.v 19], some 0), ([.v 19], none), ([], some 1)] [.leaf 2,
   .op (.bin .eql) [.cell (.v 11) 2, .c (.int .i64 (43))] <|
   .ite (.v 13) (.call 20 [.node [.cell (.v 0) 0], .v 2, .v 3, .v 4] <|
    .blk (
     .ite (.v 8) (.op (.bin .eql) [.cell (.v 14) 1, .c (.int .i64 (43))] <|
      .leaf 0) <|
     .leaf 1) [([.v 15], 0), ([.c (.bool false)], 0)] [.leaf 3]) <|
   .blk (
    .call 40 [.v 5, .v 6] <|
    .ite (.v 14) (.call 41 [.node [.cell (.v 0) 0], .v 5, .v 6] <|
     .leaf 0) <|
    .leaf 1) [([.v 15], 0), ([.c (.bool false)], 0)] [.op .len [.v 1] <|
    .op (.bin .add) [.v 15, .c (.int .i64 (1))] <|
    .loop [.v 5, .v 6, .c (.int .i64 (-1)), .c (.int .i64 (-1)), .c (.int .i64 (0)), .cell (.v 0) 0] (
     .op (.bin .lss) [.v 21, .v 16] <|
     .ite (.v 23) (.blk (
       .op (.bin .gtr) [.v 21, .c (.int .i64 (0))] <|
       .blk (
        .ite (.v 24) (.op (.bin .sub) [.v 21, .c (.int .i64 (1))] <|
         .op (.idx 6) [.v 1, .v 25] <|
         .op (.elem 0 (some 6)) [.v 1, .v 25] <|
         .shal 4 (.node [.v 22]) <|
         .call 25 [.node [.v 22], .node [.cell (.v 27) 0, .cell (.v 27) 1, .cell (.v 27) 2, .cell (.v 27) 3, .cell (.v 27) 4, .cell (.v 27) 5]] <|
         .flat (.cell (.v 28) 1) <|
         .shal 1 (.cell (.cell (.v 28) 0) 0) <|
         .op (.bin .neq) [.cell (.v 28) 1, .c (.int .i64 (0))] <|
         .ite (.v 29) (.blk (
           .ite (.v 8) (.op (.bin .eql) [.cell (.v 28) 1, .c (.int .i64 (9))] <|
            .ite (.v 30) (.op (.bin .eql) [.cell (.v 11) 2, .c (.int .i64 (9))] <|
             .leaf 0) <|
            .leaf 1) <|
           .leaf 2) [([.v 31], 0), ([.c (.bool false)], 0), ([.c (.bool false)], 0)] [.leaf 0]) <|
         .op (.bin .sub) [.v 21, .c (.int .i64 (1))] <|
         .op (.idx 6) [.v 1, .v 30] <|
         .op (.elem 0 (some 2)) [.v 1, .v 30] <|
         .op (.bin .mul) [.c (.int .i64 (3)), .v 21] <|
         .call 44 [.v 7, .v 33] <|
         .call 46 [.node [.cell (.v 32) 0, .cell (.v 32) 1], .v 34] <|
         .op (.bin .sub) [.v 21, .c (.int .i64 (1))] <|
         .op (.idx 6) [.v 1, .v 36] <|
         .op (.elem 2 (some 2)) [.v 1, .v 36] <|
         .op (.bin .mul) [.c (.int .i64 (3)), .v 21] <|
         .op (.bin .add) [.v 39, .c (.int .i64 (1))] <|
         .call 44 [.v 7, .v 40] <|
         .call 46 [.node [.cell (.v 38) 0, .cell (.v 38) 1], .v 41] <|
         .op (.bin .mul) [.v 35, .v 42] <|
         .op (.bin .add) [.v 17, .v 43] <|
         .op (.bin .sub) [.v 21, .c (.int .i64 (1))] <|
         .op (.idx 6) [.v 1, .v 45] <|
         .op (.elem 4 (some 2)) [.v 1, .v 45] <|
         .op (.bin .mul) [.c (.int .i64 (3)), .v 21] <|
         .op (.bin .add) [.v 48, .c (.int .i64 (2))] <|
         .call 44 [.v 7, .v 49] <|
         .call 46 [.node [.cell (.v 47) 0, .cell (.v 47) 1], .v 50] <|
         .op (.bin .mul) [.v 35, .v 51] <|
         .op (.bin .add) [.v 18, .v 52] <|
         .leaf 1) <|
        .leaf 2) [([.v 30], 0), ([.v 44, .v 53, .cell (.cell (.v 28) 0) 0], 1), ([.v 17, .v 18, .v 22], 1)] [.leaf 0,
        .shal 4 (.node [.v 27]) <|
        .call 20 [.node [.v 27], .v 2, .v 3, .v 4] <|
        .flat (.cell (.v 28) 0) <|
        .flat (.cell (.v 28) 1) <|
        .op (.bin .neq) [.cell (.v 28) 1, .c (.int .i64 (0))] <|
        .ite (.v 29) (.leaf 1) <|
        .blk (
         .op (.bin .neq) [.cell (.v 28) 0, .c (.int .u8 (0))] <|
         .ite (.v 30) (.op (.bin .lss) [.v 19, .c (.int .i64 (0))] <|
          .leaf 0) <|
         .leaf 1) [([.v 31], 0), ([.c (.bool false)], 0)] [.blk (
          .ite (.v 30) (.leaf 0) <|
          .leaf 1) [([.v 21], 0), ([.v 19], 0)] [.blk (
           .op (.bin .eql) [.cell (.v 28) 0, .c (.int .u8 (2))] <|
           .ite (.v 32) (.op (.bin .lss) [.v 20, .c (.int .i64 (0))] <|
            .leaf 0) <|
           .leaf 1) [([.v 33], 0), ([.c (.bool false)], 0)] [.blk (
            .ite (.v 32) (.leaf 0) <|
            .leaf 1) [([.v 21], 0), ([.v 20], 0)] [.op (.bin .sub) [.v 25, .v 2] <|
            .op (.bin .sub) [.v 2, .v 25] <|
            .op (.bin .sub) [.v 26, .v 3] <|
            .op (.bin .sub) [.v 3, .v 26] <|
            .op (.mx true) [.v 34, .v 35, .v 36, .v 37] <|
            .op (.bin .leq) [.v 38, .v 4] <|
            .blk (
             .ite (.v 14) (.ite (.v 39) (.op (.bin .lss) [.cell (.v 11) 0, .c (.int .i64 (0))] <|
               .ite (.v 40) (.op (.bin .eql) [.cell (.v 11) 2, .c (.int .i64 (0))] <|
                .leaf 0) <|
               .op (.bin .lss) [.v 21, .cell (.v 11) 0] <|
               .ite (.v 41) (.op (.bin .eql) [.cell (.v 11) 2, .c (.int .i64 (0))] <|
                .leaf 1) <|
               .op (.bin .eql) [.v 21, .cell (.v 11) 1] <|
               .ite (.v 42) (.op (.un .not) [.v 39] <|
                .ite (.v 43) (.op (.bin .eql) [.cell (.v 11) 2, .c (.int .i64 (0))] <|
                 .leaf 2) <|
                .leaf 3) <|
               .leaf 4) <|
              .op (.bin .eql) [.v 21, .cell (.v 11) 1] <|
              .ite (.v 40) (.op (.un .not) [.v 39] <|
               .ite (.v 41) (.op (.bin .eql) [.cell (.v 11) 2, .c (.int .i64 (0))] <|
                .leaf 5) <|
               .leaf 6) <|
              .leaf 7) <|
             .leaf 8) [([.v 41], 0), ([.v 42], 0), ([.v 44], 0), ([.c (.bool false)], 0), ([.c (.bool false)], 0), ([.v 42], 0), ([.c (.bool false)], 0), ([.c (.bool false)], 0), ([.c (.bool false)], 0)] [.ite (.v 40) (.leaf 2) <|
             .leaf 3]]]]]]) [([.v 25], 0), ([.c (.bool false)], 0), ([.c (.bool false)], 0), ([.v 25, .v 26, .v 31, .v 33, .v 27], 1)] [.leaf 0,
       .op (.bin .add) [.v 21, .c (.int .i64 (1))] <|
       .leaf 1]) <|
     .leaf 2) [([.v 24], some 0), ([.v 24, .v 25, .v 26, .v 27, .v 29, .v 28], none), ([.v 19, .v 20], some 1)] [.leaf 4,
     .blk (
      .ite (.v 8) (.op (.bin .eql) [.cell (.v 11) 2, .c (.int .i64 (0))] <|
       .ite (.v 19) (.op (.bin .eql) [.cell (.v 11) 0, .v 17] <|
        .ite (.v 20) (.op (.bin .eql) [.cell (.v 11) 1, .v 18] <|
         .leaf 0) <|
        .leaf 1) <|
       .leaf 2) <|
      .leaf 3) [([.v 21], 0), ([.c (.bool false)], 0), ([.c (.bool false)], 0), ([.c (.bool false)], 0)] [.leaf 5]]]]],
 [.c (.bool false), .v 8, .v 13, .v 15, .v 17, .v 19], .e⟩
def F14 : Fn := ⟨[],
 .call 23 [.c (.int .i64 (0)), .c (.int .i64 (10000))] <|
 .call 23 [.c (.int .i64 (0)), .c (.int .i64 (10000))] <|
 .call 24 [.node [.cell (.v 0) 0, .cell (.v 0) 1], .node [.cell (.v 1) 0, .cell (.v 1) 1]] <|
 .call 16 [] <|
 .call 17 [] <|
 .call 15 [.node [.cell (.v 3) 0], .node [.cell (.v 4) 0, .cell (.v 4) 1, .cell (.v 4) 2, .cell (.v 4) 3, .cell (.v 4) 4, .cell (.v 4) 5, .cell (.v 4) 6, .cell (.v 4) 7, .cell (.v 4) 8, .cell (.v 4) 9]] <|
 .flat (.cell (.v 5) 1) <|
 .shal 1 (.cell (.cell (.v 5) 0) 0) <|
 .call 27 [] <|
 .call 15 [.node [.cell (.cell (.v 5) 0) 0], .node [.cell (.v 6) 0, .cell (.v 6) 1, .cell (.v 6) 2, .cell (.v 6) 3, .cell (.v 6) 4, .cell (.v 6) 5, .cell (.v 6) 6, .cell (.v 6) 7, .cell (.v 6) 8, .cell (.v 6) 9]] <|
 .flat (.cell (.v 7) 1) <|
 .shal 1 (.cell (.cell (.v 7) 0) 0) <|
 .call 19 [.node [.cell (.cell (.v 7) 0) 0]] <|
 .flat (.cell (.cell (.v 8) 0) 0) <|
 .flat (.cell (.cell (.v 8) 0) 1) <|
 .flat (.cell (.cell (.v 8) 1) 0) <|
 .flat (.cell (.cell (.v 8) 1) 1) <|
 .flat (.cell (.v 8) 2) <|
 .call 16 [] <|
 .call 50 [] <|
 .call 15 [.node [.cell (.v 9) 0], .node [.cell (.v 10) 0, .cell (.v 10) 1, .cell (.v 10) 2, .cell (.v 10) 3, .cell (.v 10) 4, .cell (.v 10) 5, .cell (.v 10) 6, .cell (.v 10) 7, .cell (.v 10) 8, .cell (.v 10) 9]] <|
 .flat (.cell (.v 11) 1) <|
 .shal 1 (.cell (.cell (.v 11) 0) 0) <|
 .call 23 [.c (.int .i64 (1)), .c (.int .i64 (2))] <|
 .call 23 [.c (.int .i64 (1000)), .c (.int .i64 (3000))] <|
 .call 23 [.c (.int .i64 (-1000)), .c (.int .i64 (500))] <|
 .call 25 [.node [.cell (.cell (.v 11) 0) 0], .node [.cell (.v 12) 0, .cell (.v 12) 1, .cell (.v 13) 0, .cell (.v 13) 1, .cell (.v 14) 0, .cell (.v 14) 1]] <|
 .flat (.cell (.v 15) 1) <|
 .shal 1 (.cell (.cell (.v 15) 0) 0) <|
 .call 19 [.node [.cell (.cell (.v 15) 0) 0]] <|
 .flat (.cell (.cell (.v 16) 0) 0) <|
 .flat (.cell (.cell (.v 16) 0) 1) <|
 .flat (.cell (.cell (.v 16) 1) 0) <|
 .flat (.cell (.cell (.v 16) 1) 1) <|
 .flat (.cell (.v 16) 2) <|
 .call 16 [] <|
 .call 23 [.c (.int .i64 (0)), .c (.int .i64 (1000))] <|
 .call 27 [] <|
 .call 50 [] <|
 .op (.listOf 10 3 [.int .u8 (0), .int .i64 (0), .int .i64 (0), .int .i64 (0), .int .i64 (0), .int .i64 (0), .int .i64 (0), .int .i64 (0), .int .i64 (0), .int .i64 (0)] [0, 1, 2]) [.c (.int .u8 (2)), .c (.int .i64 (0)), .c (.int .i64 (0)), .c (.int .i64 (0)), .c (.int .i64 (0)), .c (.int .i64 (0)), .c (.int .i64 (0)), .cell (.v 18) 0, .cell (.v 18) 1, .c (.int .i64 (0)), .cell (.v 19) 0, .cell (.v 19) 1, .cell (.v 19) 2, .cell (.v 19) 3, .cell (.v 19) 4, .cell (.v 19) 5, .cell (.v 19) 6, .cell (.v 19) 7, .cell (.v 19) 8, .cell (.v 19) 9, .cell (.v 20) 0, .cell (.v 20) 1, .cell (.v 20) 2, .cell (.v 20) 3, .cell (.v 20) 4, .cell (.v 20) 5, .cell (.v 20) 6, .cell (.v 20) 7, .cell (.v 20) 8, .cell (.v 20) 9] <|
 .call 26 [.node [.cell (.v 17) 0], .v 21] <|
 .flat (.cell (.v 22) 1) <|
 .shal 1 (.cell (.v 22) 0) <|
 .call 16 [] <|
 .call 20 [.node [.cell (.v 23) 0], .c (.int .i64 (5000)), .c (.int .i64 (5000)), .c (.int .i64 (4999))] <|
 .flat (.cell (.v 24) 0) <|
 .flat (.cell (.v 24) 1) <|
 .call 16 [] <|
 .call 22 [] <|
 .call 22 [] <|
 .call 22 [] <|
 .call 22 [] <|
 .op (.listOf 6 4 [.int .i64 (0), .int .i64 (0), .int .i64 (0), .int .i64 (0), .int .i64 (0), .int .i64 (0)] [0, 1, 2, 3]) [.cell (.v 26) 0, .cell (.v 26) 1, .cell (.v 26) 2, .cell (.v 26) 3, .cell (.v 26) 4, .cell (.v 26) 5, .cell (.v 27) 0, .cell (.v 27) 1, .cell (.v 27) 2, .cell (.v 27) 3, .cell (.v 27) 4, .cell (.v 27) 5, .cell (.v 28) 0, .cell (.v 28) 1, .cell (.v 28) 2, .cell (.v 28) 3, .cell (.v 28) 4, .cell (.v 28) 5, .cell (.v 29) 0, .cell (.v 29) 1, .cell (.v 29) 2, .cell (.v 29) 3, .cell (.v 29) 4, .cell (.v 29) 5] <|
 .call 21 [.node [.cell (.v 25) 0], .v 30, .c (.int .i64 (12000)), .c (.int .i64 (5000)), .c (.int .i64 (6000))] <|
 .flat (.cell (.v 31) 0) <|
 .flat (.cell (.v 31) 1) <|
 .flat (.cell (.v 31) 2) <|
 .blk (
  .op (.bin .eql) [.cell (.v 2) 1, .c (.int .i64 (0))] <|
  .ite (.v 32) (.call 16 [] <|
   .call 18 [.node [.cell (.cell (.v 2) 0) 0], .node [.cell (.v 33) 0]] <|
   .flat (.v 34) <|
   .ite (.v 34) (.op (.bin .eql) [.cell (.v 5) 1, .c (.int .i64 (0))] <|
    .ite (.v 35) (.op (.bin .eql) [.cell (.v 7) 1, .c (.int .i64 (0))] <|
     .ite (.v 36) (.op (.bin .eql) [.cell (.v 8) 2, .c (.int .i64 (0))] <|
      .ite (.v 37) (.call 23 [.c (.int .i64 (0)), .c (.int .i64 (5000))] <|
       .op (.eqv false [false, false]) [.cell (.cell (.v 8) 0) 0, .cell (.cell (.v 8) 0) 1, .cell (.v 38) 0, .cell (.v 38) 1] <|
       .ite (.v 39) (.call 23 [.c (.int .i64 (0)), .c (.int .i64 (10000))] <|
        .op (.eqv false [false, false]) [.cell (.cell (.v 8) 1) 0, .cell (.cell (.v 8) 1) 1, .cell (.v 40) 0, .cell (.v 40) 1] <|
        .ite (.v 41) (.op (.bin .eql) [.cell (.v 11) 1, .c (.int .i64 (0))] <|
         .ite (.v 42) (.op (.bin .eql) [.cell (.v 15) 1, .c (.int .i64 (0))] <|
          .ite (.v 43) (.op (.bin .eql) [.cell (.v 16) 2, .c (.int .i64 (0))] <|
           .ite (.v 44) (.call 23 [.c (.int .i64 (1000)), .c (.int .i64 (16000))] <|
            .op (.eqv false [false, false]) [.cell (.cell (.v 16) 0) 0, .cell (.cell (.v 16) 0) 1, .cell (.v 45) 0, .cell (.v 45) 1] <|
            .ite (.v 46) (.call 23 [.c (.int .i64 (7000)), .c (.int .i64 (11000))] <|
             .op (.eqv false [false, false]) [.cell (.cell (.v 16) 1) 0, .cell (.cell (.v 16) 1) 1, .cell (.v 47) 0, .cell (.v 47) 1] <|
             .ite (.v 48) (.op (.bin .eql) [.cell (.v 22) 1, .c (.int .i64 (0))] <|
              .ite (.v 49) (.call 37 [.cell (.v 22) 0, .c (.list [[.int .i64 (0)], [.int .i64 (2)]])] <|
               .flat (.v 50) <|
               .ite (.v 50) (.op (.bin .eql) [.cell (.v 24) 1, .c (.int .i64 (0))] <|
                .ite (.v 51) (.op (.bin .eql) [.cell (.v 24) 0, .c (.int .u8 (1))] <|
                 .ite (.v 52) (.op (.bin .eql) [.cell (.v 31) 2, .c (.int .i64 (0))] <|
                  .ite (.v 53) (.op (.bin .eql) [.cell (.v 31) 0, .c (.int .i64 (0))] <|
                   .ite (.v 54) (.op (.bin .eql) [.cell (.v 31) 1, .c (.int .i64 (3))] <|
                    .leaf 0) <|
                   .leaf 1) <|
                  .leaf 2) <|
                 .leaf 3) <|
                .leaf 4) <|
               .leaf 5) <|
              .leaf 6) <|
             .leaf 7) <|
            .leaf 8) <|
           .leaf 9) <|
          .leaf 10) <|
         .leaf 11) <|
        .leaf 12) <|
       .leaf 13) <|
      .leaf 14) <|
     .leaf 15) <|
    .leaf 16) <|
   .leaf 17) <|
  .leaf 18) [([.v 55], 0), ([.c (.bool false)], 0), ([.c (.bool false)], 0), ([.c (.bool false)], 0), ([.c (.bool false)], 0), ([.c (.bool false)], 0), ([.c (.bool false)], 0), ([.c (.bool false)], 0), ([.c (.bool false)], 0), ([.c (.bool false)], 0), ([.c (.bool false)], 0), ([.c (.bool false)], 0), ([.c (.bool false)], 0), ([.c (.bool false)], 0), ([.c (.bool false)], 0), ([.c (.bool false)], 0), ([.c (.bool false)], 0), ([.c (.bool false)], 0), ([.c (.bool false)], 0)] [.leaf 0],
 [.v 32], .e⟩
def F15 : Fn := ⟨[(some 1), (some 10)],
 .call 28 [.node [.cell (.v 0) 0]] <|
 .op (.bin .neq) [.v 2, .c (.int .i64 (0))] <|
 .ite (.v 3) (.leaf 0) <|
 .call 51 [.node [.cell (.v 1) 0, .cell (.v 1) 1, .cell (.v 1) 2, .cell (.v 1) 3, .cell (.v 1) 4, .cell (.v 1) 5, .cell (.v 1) 6, .cell (.v 1) 7, .cell (.v 1) 8, .cell (.v 1) 9]] <|
 .op (.un .not) [.v 4] <|
 .ite (.v 5) (.leaf 1) <|
 .call 53 [.node [.cell (.v 1) 0, .cell (.v 1) 1, .cell (.v 1) 2, .cell (.v 1) 3, .cell (.v 1) 4, .cell (.v 1) 5, .cell (.v 1) 6, .cell (.v 1) 7, .cell (.v 1) 8, .cell (.v 1) 9]] <|
 .op (.listOf 1 2 [.list []] [0, 1]) [.cell (.v 0) 0, .v 6] <|
 .shal 4 (.v 7) <|
 .call 52 [.v 7] <|
 .shal 1 (.v 8) <|
 .op .len [.v 8] <|
 .op (.bin .gtr) [.v 9, .c (.int .i64 (40))] <|
 .ite (.v 10) (.leaf 2) <|
 .call 54 [.v 8] <|
 .flat (.v 11) <|
 .op (.un .not) [.v 11] <|
 .ite (.v 12) (.leaf 3) <|
 .leaf 4,
 [.node [.node [.c (.list [])], .v 2], .node [.node [.c (.list [])], .c (.int .i64 (41))], .node [.node [.c (.list [])], .c (.int .i64 (9))], .node [.node [.c (.list [])], .c (.int .i64 (43))], .node [.node [.v 8], .c (.int .i64 (0))]], .tup [.node [.own 3], .e]⟩
def F16 : Fn := ⟨[],
 .leaf 0,
 [.node [.c (.list [[.int .i64 (1), .int .i64 (0), .int .i64 (10000)], [.int .i64 (-1), .int .i64 (0), .int .i64 (0)], [.int .i64 (0), .int .i64 (1), .int .i64 (10000)], [.int .i64 (0), .int .i64 (-1), .int .i64 (0)]])]], .node [.own 3]⟩
def F17 : Fn := ⟨[],
 .leaf 0,
 [.node [.c (.int .u8 (1)), .c (.int .i64 (12000)), .c (.int .i64 (0)), .c (.int .i64 (1)), .c (.int .i64 (-1)), .c (.int .i64 (1)), .c (.int .i64 (0)), .c (.int .i64 (0)), .c (.int .i64 (0)), .c (.int .i64 (0))]], .node [.e, .e, .e, .e, .e, .e, .e, .e, .e, .e]⟩
def F18 : Fn := ⟨[(some 1), (some 1)],
 .op .len [.cell (.v 0) 0] <|
 .op .len [.cell (.v 1) 0] <|
 .op (.bin .neq) [.v 2, .v 3] <|
 .ite (.v 4) (.leaf 0) <|
 .loop [.c (.int .i64 (0))] (
  .op .len [.cell (.v 0) 0] <|
  .op (.bin .lss) [.v 5, .v 6] <|
  .ite (.v 7) (.op (.idx 3) [.cell (.v 0) 0, .v 5] <|
   .op (.elem 0 (some 3)) [.cell (.v 0) 0, .v 5] <|
   .op (.idx 3) [.cell (.v 1) 0, .v 5] <|
   .op (.elem 0 (some 3)) [.cell (.v 1) 0, .v 5] <|
   .op (.eqv true [false, false, false]) [.cell (.v 9) 0, .cell (.v 9) 1, .cell (.v 9) 2, .cell (.v 11) 0, .cell (.v 11) 1, .cell (.v 11) 2] <|
   .ite (.v 12) (.leaf 0) <|
   .op (.bin .add) [.v 5, .c (.int .i64 (1))] <|
   .leaf 1) <|
  .leaf 2) [([], some 0), ([.v 13], none), ([], some 1)] [.leaf 1,
  .leaf 2],
 [.c (.bool false), .c (.bool false), .c (.bool true)], .e⟩
def F19 : Fn := ⟨[(some 1)],
 .call 28 [.node [.cell (.v 0) 0]] <|
 .op (.bin .neq) [.v 1, .c (.int .i64 (0))] <|
 .ite (.v 2) (.leaf 0) <|
 .op .len [.cell (.v 0) 0] <|
 .loop [.c (.int .i64 (0)), .c (.list []), .c (.list [])] (
  .op (.bin .lss) [.v 4, .v 3] <|
  .ite (.v 7) (.op (.idx 3) [.cell (.v 0) 0, .v 4] <|
   .op (.elem 0 (some 3)) [.cell (.v 0) 0, .v 4] <|
   .op (.sl 3 false true) [.cell (.v 0) 0, .v 4] <|
   .op .len [.v 10] <|
   .loop [.c (.int .i64 (0)), .v 5, .v 6] (
    .op (.bin .lss) [.v 12, .v 11] <|
    .ite (.v 15) (.op (.idx 3) [.v 10, .v 12] <|
     .op (.elem 0 (some 3)) [.v 10, .v 12] <|
     .call 93 [.node [.cell (.v 9) 0, .cell (.v 9) 1, .cell (.v 9) 2], .node [.cell (.v 17) 0, .cell (.v 17) 1, .cell (.v 17) 2]] <|
     .blk (
      .ite (.cell (.v 18) 1) (.flat (.node [.cell (.cell (.v 18) 0) 0, .cell (.cell (.v 18) 0) 1, .cell (.cell (.v 18) 0) 2]) <|
       .call 66 [.cell (.v 0) 0, .fn 94 [.node [.cell (.cell (.v 18) 0) 0, .cell (.cell (.v 18) 0) 1, .cell (.cell (.v 18) 0) 2]] []] <|
       .ite (.v 19) (.call 56 [.cell (.cell (.v 18) 0) 0, .cell (.cell (.v 18) 0) 2] <|
        .call 57 [.cell (.cell (.v 18) 0) 0, .cell (.cell (.v 18) 0) 2] <|
        .op (.listOf 1 2 [.int .i64 (0)] [0, 1]) [.v 20, .v 21] <|
        .op (.app 1 8) [.v 13, .v 22] <|
        .call 56 [.cell (.cell (.v 18) 0) 1, .cell (.cell (.v 18) 0) 2] <|
        .call 57 [.cell (.cell (.v 18) 0) 1, .cell (.cell (.v 18) 0) 2] <|
        .op (.listOf 1 2 [.int .i64 (0)] [0, 1]) [.v 24, .v 25] <|
        .op (.app 1 8) [.v 14, .v 26] <|
        .leaf 0) <|
       .leaf 1) <|
      .leaf 2) [([.v 23, .v 27], 0), ([.v 13, .v 14], 0), ([.v 13, .v 14], 0)] [.op (.bin .add) [.v 12, .c (.int .i64 (1))] <|
      .leaf 0]) <|
    .leaf 1) [([.v 21, .v 19, .v 20], none), ([.v 13, .v 14], some 0)] [.op (.bin .add) [.v 4, .c (.int .i64 (1))] <|
    .leaf 0]) <|
  .leaf 1) [([.v 14, .v 12, .v 13], none), ([.v 5, .v 6], some 0)] [.op .len [.v 4] <|
  .op (.bin .eql) [.v 6, .c (.int .i64 (0))] <|
  .ite (.v 7) (.leaf 1) <|
  .call 58 [.v 4] <|
  .flat (.cell (.v 8) 0) <|
  .flat (.cell (.v 8) 1) <|
  .call 58 [.v 5] <|
  .flat (.cell (.v 9) 0) <|
  .flat (.cell (.v 9) 1) <|
  .leaf 2],
 [.node [.node [.c (.int .i64 (0)), .c (.int .i64 (0))], .node [.c (.int .i64 (0)), .c (.int .i64 (0))], .v 1], .node [.node [.c (.int .i64 (0)), .c (.int .i64 (0))], .node [.c (.int .i64 (0)), .c (.int .i64 (0))], .c (.int .i64 (43))], .node [.node [.cell (.v 8) 0, .cell (.v 8) 1], .node [.cell (.v 9) 0, .cell (.v 9) 1], .c (.int .i64 (0))]], .tup [.node [.e, .e], .node [.e, .e], .e]⟩
def F20 : Fn := ⟨[(some 1), none, none, none],
 .call 28 [.node [.cell (.v 0) 0]] <|
 .op (.bin .neq) [.v 4, .c (.int .i64 (0))] <|
 .ite (.v 5) (.leaf 0) <|
 .call 51 [.node [.c (.int .u8 (3)), .v 1, .v 2, .c (.int .i64 (0)), .c (.int .i64 (0)), .c (.int .i64 (0)), .c (.int .i64 (0)), .c (.int .i64 (0)), .c (.int .i64 (0)), .v 3]] <|
 .op (.un .not) [.v 6] <|
 .ite (.v 7) (.leaf 1) <|
 .call 54 [.cell (.v 0) 0] <|
 .op (.un .not) [.v 8] <|
 .ite (.v 9) (.leaf 2) <|
 .call 53 [.node [.c (.int .u8 (3)), .v 1, .v 2, .c (.int .i64 (0)), .c (.int .i64 (0)), .c (.int .i64 (0)), .c (.int .i64 (0)), .c (.int .i64 (0)), .c (.int .i64 (0)), .v 3]] <|
 .call 59 [.cell (.v 0) 0, .v 10] <|
 .flat (.v 11) <|
 .leaf 3,
 [.node [.c (.int .u8 (0)), .v 4], .node [.c (.int .u8 (0)), .c (.int .i64 (2))], .node [.c (.int .u8 (0)), .c (.int .i64 (43))], .node [.v 11, .c (.int .i64 (0))]], .tup [.e, .e]⟩
def F21 : Fn := ⟨[(some 1), none, none, none, none],
 .call 20 [.node [.cell (.v 0) 0], .v 2, .v 3, .v 4] <|
 .op (.bin .neq) [.cell (.v 5) 1, .c (.int .i64 (0))] <|
 .ite (.v 6) (.leaf 0) <|
 .op .len [.v 1] <|
 .op (.bin .gtr) [.v 7, .c (.int .i64 (60))] <|
 .ite (.v 8) (.leaf 1) <|
 .call 60 [.v 1, .fn 61 [] []] <|
 .op (.un .not) [.v 9] <|
 .ite (.v 10) (.leaf 2) <|
 .op (.bin .neq) [.cell (.v 5) 0, .c (.int .u8 (0))] <|
 .blk (
  .ite (.v 11) (.leaf 0) <|
  .leaf 1) [([.c (.int .i64 (0))], 0), ([.c (.int .i64 (-1))], 0)] [.op (.bin .eql) [.cell (.v 5) 0, .c (.int .u8 (2))] <|
  .blk (
   .ite (.v 13) (.leaf 0) <|
   .leaf 1) [([.c (.int .i64 (0))], 0), ([.c (.int .i64 (-1))], 0)] [.op .len [.v 1] <|
   .loop [.c (.int .i64 (0)), .cell (.v 0) 0, .v 12, .v 14, .cell (.v 5) 0] (
    .op (.bin .lss) [.v 16, .v 15] <|
    .ite (.v 21) (.op (.idx 6) [.v 1, .v 16] <|
     .op (.elem 0 (some 6)) [.v 1, .v 16] <|
     .shal 4 (.node [.v 17]) <|
     .call 25 [.node [.v 17], .node [.cell (.v 23) 0, .cell (.v 23) 1, .cell (.v 23) 2, .cell (.v 23) 3, .cell (.v 23) 4, .cell (.v 23) 5]] <|
     .flat (.cell (.v 24) 1) <|
     .shal 1 (.cell (.cell (.v 24) 0) 0) <|
     .op (.bin .neq) [.cell (.v 24) 1, .c (.int .i64 (0))] <|
     .ite (.v 25) (.leaf 0) <|
     .call 20 [.node [.cell (.cell (.v 24) 0) 0], .v 2, .v 3, .v 4] <|
     .flat (.cell (.v 26) 0) <|
     .flat (.cell (.v 26) 1) <|
     .op (.bin .add) [.v 16, .c (.int .i64 (1))] <|
     .blk (
      .op (.bin .lss) [.v 18, .c (.int .i64 (0))] <|
      .ite (.v 28) (.op (.bin .neq) [.cell (.v 26) 0, .c (.int .u8 (0))] <|
       .leaf 0) <|
      .leaf 1) [([.v 29], 0), ([.c (.bool false)], 0)] [.blk (
       .ite (.v 28) (.leaf 0) <|
       .leaf 1) [([.v 27], 0), ([.v 18], 0)] [.blk (
        .op (.bin .lss) [.v 19, .c (.int .i64 (0))] <|
        .ite (.v 30) (.op (.bin .eql) [.cell (.v 26) 0, .c (.int .u8 (2))] <|
         .leaf 0) <|
        .leaf 1) [([.v 31], 0), ([.c (.bool false)], 0)] [.blk (
         .ite (.v 30) (.leaf 0) <|
         .leaf 1) [([.v 27], 0), ([.v 19], 0)] [.op (.bin .add) [.v 16, .c (.int .i64 (1))] <|
         .leaf 1]]]]) <|
    .leaf 2) [([.cell (.v 24) 1], some 0), ([.v 32, .cell (.cell (.v 24) 0) 0, .v 29, .v 31, .cell (.v 26) 0], none), ([.v 18, .v 19], some 1)] [.leaf 3,
    .leaf 4]]],
 [.node [.c (.int .i64 (0)), .c (.int .i64 (0)), .cell (.v 5) 1], .node [.c (.int .i64 (0)), .c (.int .i64 (0)), .c (.int .i64 (4))], .node [.c (.int .i64 (0)), .c (.int .i64 (0)), .c (.int .i64 (42))], .node [.c (.int .i64 (0)), .c (.int .i64 (0)), .v 16], .node [.v 16, .v 17, .c (.int .i64 (0))]], .tup [.e, .e, .e]⟩
def F22 : Fn := ⟨[],
 .call 23 [.c (.int .i64 (1)), .c (.int .i64 (1))] <|
 .call 23 [.c (.int .i64 (2000)), .c (.int .i64 (2000))] <|
 .leaf 0,
 [.node [.cell (.v 0) 0, .cell (.v 0) 1, .cell (.v 1) 0, .cell (.v 1) 1, .c (.int .i64 (0)), .c (.int .i64 (0))]], .node [.e, .e, .e, .e, .e, .e]⟩
def F23 : Fn := ⟨[none, none],
 .leaf 0,
 [.node [.v 0, .v 1]], .node [.e, .e]⟩
def F24 : Fn := ⟨[(some 2), (some 2)],
 .blk (
  .call 63 [.node [.cell (.v 0) 0, .cell (.v 0) 1], .c (.int .i64 (-10000000)), .c (.int .i64 (10000000))] <|
  .op (.un .not) [.v 2] <|
  .ite (.v 3) (.leaf 0) <|
  .call 63 [.node [.cell (.v 1) 0, .cell (.v 1) 1], .c (.int .i64 (-10000000)), .c (.int .i64 (10000000))] <|
  .op (.un .not) [.v 4] <|
  .leaf 1) [([.c (.bool true)], 0), ([.v 5], 0)] [.ite (.v 2) (.leaf 0) <|
  .call 64 [.node [.cell (.v 0) 0, .cell (.v 0) 1], .node [.cell (.v 1) 0, .cell (.v 1) 1]] <|
  .leaf 1],
 [.node [.node [.c (.list [])], .c (.int .i64 (2))], .node [.node [.v 3], .c (.int .i64 (0))]], .tup [.node [.own 3], .e]⟩
def F25 : Fn := ⟨[(some 1), (some 6)],
 .call 28 [.node [.cell (.v 0) 0]] <|
 .op (.bin .neq) [.v 2, .c (.int .i64 (0))] <|
 .ite (.v 3) (.leaf 0) <|
 .call 61 [.node [.cell (.v 1) 0, .cell (.v 1) 1, .cell (.v 1) 2, .cell (.v 1) 3, .cell (.v 1) 4, .cell (.v 1) 5]] <|
 .op (.un .not) [.v 4] <|
 .ite (.v 5) (.leaf 1) <|
 .call 65 [.cell (.v 0) 0, .node [.cell (.v 1) 0, .cell (.v 1) 1, .cell (.v 1) 2, .cell (.v 1) 3, .cell (.v 1) 4, .cell (.v 1) 5]] <|
 .call 66 [.v 6, .fn 67 [] []] <|
 .flat (.v 7) <|
 .op (.un .not) [.v 7] <|
 .ite (.v 8) (.leaf 2) <|
 .call 54 [.cell (.v 0) 0] <|
 .op (.un .not) [.v 9] <|
 .ite (.v 10) (.leaf 3) <|
 .leaf 4,
 [.node [.node [.c (.list [])], .v 2], .node [.node [.c (.list [])], .c (.int .i64 (42))], .node [.node [.c (.list [])], .c (.int .i64 (9))], .node [.node [.c (.list [])], .c (.int .i64 (43))], .node [.node [.v 6], .c (.int .i64 (0))]], .tup [.node [.own 3], .e]⟩
def F26 : Fn := ⟨[(some 1), none],
 .call 28 [.node [.cell (.v 0) 0]] <|
 .op (.bin .neq) [.v 2, .c (.int .i64 (0))] <|
 .ite (.v 3) (.leaf 0) <|
 .op .len [.v 1] <|
 .op (.bin .gtr) [.v 4, .c (.int .i64 (10))] <|
 .ite (.v 5) (.leaf 1) <|
 .call 68 [.v 1, .fn 51 [] []] <|
 .op (.un .not) [.v 6] <|
 .ite (.v 7) (.leaf 2) <|
 .op .len [.v 1] <|
 .loop [.c (.int .i64 (0)), .c (.list [])] (
  .op (.bin .lss) [.v 9, .v 8] <|
  .ite (.v 11) (.op (.listOf 1 1 [.int .i64 (0)] [0]) [.v 9] <|
   .op (.app 1 8) [.v 10, .v 12] <|
   .op (.bin .add) [.v 9, .c (.int .i64 (1))] <|
   .leaf 0) <|
  .leaf 1) [([.v 14, .v 13], none), ([.v 10], some 0)] [.call 69 [.node [.cell (.v 0) 0], .v 1, .v 9] <|
  .flat (.v 10) <|
  .op (.un .not) [.v 10] <|
  .ite (.v 11) (.leaf 3) <|
  .op .len [.v 1] <|
  .loop [.c (.int .i64 (0)), .v 9] (
   .op (.bin .lss) [.v 13, .v 12] <|
   .ite (.v 15) (.call 70 [.v 14, .v 13] <|
    .shal 1 (.v 16) <|
    .call 69 [.node [.cell (.v 0) 0], .v 1, .v 16] <|
    .flat (.v 17) <|
    .blk (
     .ite (.v 17) (.leaf 0) <|
     .leaf 1) [([.v 16], 0), ([.v 14], 0)] [.op (.bin .add) [.v 13, .c (.int .i64 (1))] <|
     .leaf 0]) <|
   .leaf 1) [([.v 19, .v 18], none), ([.v 14], some 0)] [.leaf 4]],
 [.node [.c (.list []), .v 2], .node [.c (.list []), .c (.int .i64 (4))], .node [.c (.list []), .c (.int .i64 (41))], .node [.c (.list []), .c (.int .i64 (6))], .node [.v 13, .c (.int .i64 (0))]], .tup [.own 1, .e]⟩
def F27 : Fn := ⟨[],
 .leaf 0,
 [.node [.c (.int .u8 (1)), .c (.int .i64 (0)), .c (.int .i64 (20000)), .c (.int .i64 (0)), .c (.int .i64 (1)), .c (.int .i64 (-1)), .c (.int .i64 (4)), .c (.int .i64 (0)), .c (.int .i64 (0)), .c (.int .i64 (0))]], .node [.e, .e, .e, .e, .e, .e, .e, .e, .e, .e]⟩
def F28 : Fn := ⟨[(some 1)],
 .call 71 [.node [.cell (.v 0) 0]] <|
 .op (.un .not) [.v 1] <|
 .ite (.v 2) (.leaf 0) <|
 .leaf 1,
 [.c (.int .i64 (40)), .c (.int .i64 (0))], .e⟩
def F29 : Fn := ⟨[(some 1)],
 .op .len [.cell (.v 0) 0] <|
 .op (.bin .gtr) [.v 1, .c (.int .i64 (60))] <|
 .leaf 0,
 [.v 2], .e⟩
def F30 : Fn := ⟨[(some 1)],
 .call 72 [.cell (.v 0) 0, .c (.list [])] <|
 .leaf 0,
 [.node [.v 1]], .node [.own 3]⟩
def F31 : Fn := ⟨[(some 2), (some 2)],
 .blk (
  .call 73 [.node [.cell (.v 0) 0, .cell (.v 0) 1], .c (.int .i64 (-10000000)), .c (.int .i64 (10000000))] <|
  .op (.un .not) [.v 2] <|
  .ite (.v 3) (.leaf 0) <|
  .call 73 [.node [.cell (.v 1) 0, .cell (.v 1) 1], .c (.int .i64 (-10000000)), .c (.int .i64 (10000000))] <|
  .op (.un .not) [.v 4] <|
  .leaf 1) [([.c (.bool true)], 0), ([.v 5], 0)] [.ite (.v 2) (.leaf 0) <|
  .op (.un .neg) [.cell (.v 0) 0] <|
  .op (.un .neg) [.cell (.v 1) 0] <|
  .op (.listOf 3 4 [.int .i64 (0), .int .i64 (0), .int .i64 (0)] [0, 1, 2, 3]) [.c (.int .i64 (1)), .c (.int .i64 (0)), .cell (.v 0) 1, .c (.int .i64 (-1)), .c (.int .i64 (0)), .v 3, .c (.int .i64 (0)), .c (.int .i64 (1)), .cell (.v 1) 1, .c (.int .i64 (0)), .c (.int .i64 (-1)), .v 4] <|
  .leaf 1],
 [.node [.node [.c (.list [])], .c (.int .i64 (2))], .node [.node [.v 5], .c (.int .i64 (0))]], .tup [.node [.own 3], .e]⟩
def F32 : Fn := ⟨[(some 1)],
 .call 74 [.node [.cell (.v 0) 0]] <|
 .op (.un .not) [.v 1] <|
 .ite (.v 2) (.leaf 0) <|
 .call 75 [.cell (.v 0) 0] <|
 .op .len [.v 3] <|
 .op (.bin .eql) [.v 4, .c (.int .i64 (0))] <|
 .ite (.v 5) (.leaf 1) <|
 .loop [.c (.int .i64 (0)), .c (.int .i64 (0)), .c (.int .i64 (0)), .c (.int .i64 (0)), .c (.int .i64 (0))] (
  .op .len [.v 3] <|
  .op (.bin .lss) [.v 6, .v 11] <|
  .ite (.v 12) (.op (.idx 3) [.v 3, .v 6] <|
   .op (.elem 0 (some 3)) [.v 3, .v 6] <|
   .call 76 [.cell (.v 14) 0, .cell (.v 14) 2] <|
   .op (.un .neg) [.cell (.v 14) 0] <|
   .call 76 [.v 16, .cell (.v 14) 2] <|
   .op (.un .neg) [.v 17] <|
   .call 76 [.cell (.v 14) 1, .cell (.v 14) 2] <|
   .op (.un .neg) [.cell (.v 14) 1] <|
   .call 76 [.v 20, .cell (.v 14) 2] <|
   .op (.un .neg) [.v 21] <|
   .op (.bin .eql) [.v 6, .c (.int .i64 (0))] <|
   .blk (
    .ite (.v 23) (.leaf 0) <|
    .leaf 1) [([.v 15, .v 18, .v 19, .v 22], 0), ([.v 7, .v 8, .v 9, .v 10], 0)] [.op (.mx false) [.v 24, .v 15] <|
    .op (.mx true) [.v 25, .v 18] <|
    .op (.mx false) [.v 26, .v 19] <|
    .op (.mx true) [.v 27, .v 22] <|
    .op (.bin .add) [.v 6, .c (.int .i64 (1))] <|
    .leaf 0]) <|
  .leaf 1) [([.v 32, .v 28, .v 29, .v 30, .v 31], none), ([.v 7, .v 8, .v 9, .v 10], some 0)] [.leaf 2],
 [.node [.node [.c (.int .i64 (0)), .c (.int .i64 (0))], .node [.c (.int .i64 (0)), .c (.int .i64 (0))], .c (.int .i64 (40))], .node [.node [.c (.int .i64 (0)), .c (.int .i64 (0))], .node [.c (.int .i64 (0)), .c (.int .i64 (0))], .c (.int .i64 (43))], .node [.node [.v 6, .v 7], .node [.v 8, .v 9], .c (.int .i64 (0))]], .tup [.node [.e, .e], .node [.e, .e], .e]⟩
def F33 : Fn := ⟨[(some 1), none, none, none],
 .call 77 [.node [.cell (.v 0) 0], .v 1, .v 2, .v 3] <|
 .op (.bin .neq) [.v 4, .c (.int .i64 (0))] <|
 .ite (.v 5) (.leaf 0) <|
 .call 78 [.cell (.v 0) 0, .v 1, .v 2, .v 3] <|
 .leaf 1,
 [.node [.c (.int .u8 (0)), .v 4], .node [.v 6, .c (.int .i64 (0))]], .tup [.e, .e]⟩
def F34 : Fn := ⟨[(some 1)],
 .call 74 [.node [.cell (.v 0) 0]] <|
 .op (.un .not) [.v 1] <|
 .ite (.v 2) (.leaf 0) <|
 .leaf 1,
 [.c (.int .i64 (40)), .c (.int .i64 (0))], .e⟩
def F37 : Fn := ⟨[none, none],
 .op .len [.v 0] <|
 .op .len [.v 1] <|
 .op (.bin .neq) [.v 2, .v 3] <|
 .ite (.v 4) (.leaf 0) <|
 .loop [.c (.int .i64 (0))] (
  .op .len [.v 0] <|
  .op (.bin .lss) [.v 5, .v 6] <|
  .ite (.v 7) (.op (.idx 1) [.v 0, .v 5] <|
   .op (.elem 0 none) [.v 0, .v 5] <|
   .op (.idx 1) [.v 1, .v 5] <|
   .op (.elem 0 none) [.v 1, .v 5] <|
   .op (.bin .neq) [.v 9, .v 11] <|
   .ite (.v 12) (.leaf 0) <|
   .op (.bin .add) [.v 5, .c (.int .i64 (1))] <|
   .leaf 1) <|
  .leaf 2) [([], some 0), ([.v 13], none), ([], some 1)] [.leaf 1,
  .leaf 2],
 [.c (.bool false), .c (.bool false), .c (.bool true)], .e⟩
def F38 : Fn := ⟨[(some 1), (some 6)],
 .call 74 [.node [.cell (.v 0) 0]] <|
 .op (.un .not) [.v 2] <|
 .ite (.v 3) (.leaf 0) <|
 .call 45 [.node [.cell (.v 1) 0, .cell (.v 1) 1, .cell (.v 1) 2, .cell (.v 1) 3, .cell (.v 1) 4, .cell (.v 1) 5]] <|
 .op (.un .not) [.v 4] <|
 .ite (.v 5) (.leaf 1) <|
 .call 81 [.cell (.v 0) 0, .node [.cell (.v 1) 0, .cell (.v 1) 1, .cell (.v 1) 2, .cell (.v 1) 3, .cell (.v 1) 4, .cell (.v 1) 5]] <|
 .op (.un .not) [.cell (.v 6) 1] <|
 .ite (.v 7) (.leaf 2) <|
 .call 75 [.cell (.v 0) 0] <|
 .op .len [.v 8] <|
 .op (.bin .eql) [.v 9, .c (.int .i64 (0))] <|
 .ite (.v 10) (.leaf 3) <|
 .leaf 4,
 [.node [.node [.c (.list [])], .c (.int .i64 (40))], .node [.node [.c (.list [])], .c (.int .i64 (42))], .node [.node [.c (.list [])], .c (.int .i64 (9))], .node [.node [.c (.list [])], .c (.int .i64 (43))], .node [.node [.cell (.v 6) 0], .c (.int .i64 (0))]], .tup [.node [.own 3], .e]⟩
def F40 : Fn := ⟨[none, none],
 .blk (
  .op (.un .neg) [.v 0] <|
  .op (.un .neg) [.v 1] <|
  .op (.mx true) [.v 0, .v 2, .v 1, .v 3] <|
  .op (.bin .leq) [.v 4, .c (.int .i64 (10000000000))] <|
  .ite (.v 5) (.op (.mx false) [.v 0, .v 1] <|
   .op (.bin .gtr) [.v 6, .c (.int .i64 (-10000000000))] <|
   .leaf 0) <|
  .leaf 1) [([.v 7], 0), ([.c (.bool false)], 0)] [.leaf 0],
 [.v 2], .e⟩
def F41 : Fn := ⟨[(some 1), none, none],
 .op .len [.cell (.v 0) 0] <|
 .loop [.c (.int .i64 (0))] (
  .op (.bin .lss) [.v 4, .v 3] <|
  .ite (.v 5) (.op (.idx 3) [.cell (.v 0) 0, .v 4] <|
   .op (.elem 0 (some 3)) [.cell (.v 0) 0, .v 4] <|
   .op (.bin .mul) [.cell (.v 7) 0, .v 1] <|
   .op (.bin .mul) [.cell (.v 7) 1, .v 2] <|
   .op (.bin .add) [.v 8, .v 9] <|
   .op (.bin .gtr) [.v 10, .cell (.v 7) 2] <|
   .ite (.v 11) (.leaf 0) <|
   .op (.bin .add) [.v 4, .c (.int .i64 (1))] <|
   .leaf 1) <|
  .leaf 2) [([], some 0), ([.v 12], none), ([], some 1)] [.leaf 0,
  .leaf 1],
 [.c (.bool false), .c (.bool true)], .e⟩
def F42 : Fn := ⟨[(some 10)],
 .blk (
  .call 82 [.cell (.v 0) 1, .c (.int .i64 (-10000000)), .c (.int .i64 (10000000))] <|
  .ite (.v 1) (.call 82 [.cell (.v 0) 2, .c (.int .i64 (-10000000)), .c (.int .i64 (10000000))] <|
   .leaf 0) <|
  .leaf 1) [([.v 2], 0), ([.c (.bool false)], 0)] [.op (.bin .eql) [.cell (.v 0) 0, .c (.int .u8 (1))] <|
  .blk (
   .ite (.v 2) (.blk (
     .ite (.v 1) (.call 83 [.node [.cell (.v 0) 3, .cell (.v 0) 4]] <|
      .ite (.v 3) (.call 83 [.node [.cell (.v 0) 5, .cell (.v 0) 6]] <|
       .ite (.v 4) (.op (.bin .mul) [.cell (.v 0) 3, .cell (.v 0) 6] <|
        .op (.bin .mul) [.cell (.v 0) 4, .cell (.v 0) 5] <|
        .op (.bin .sub) [.v 5, .v 6] <|
        .op (.bin .gtr) [.v 7, .c (.int .i64 (0))] <|
        .leaf 0) <|
       .leaf 1) <|
      .leaf 2) <|
     .leaf 3) [([.v 8], 0), ([.c (.bool false)], 0), ([.c (.bool false)], 0), ([.c (.bool false)], 0)] [.leaf 0]) <|
   .op (.bin .eql) [.cell (.v 0) 0, .c (.int .u8 (2))] <|
   .blk (
    .ite (.v 3) (.call 73 [.node [.cell (.v 0) 7, .cell (.v 0) 8], .c (.int .i64 (-10000000)), .c (.int .i64 (10000000))] <|
     .leaf 0) <|
    .op (.bin .eql) [.cell (.v 0) 0, .c (.int .u8 (3))] <|
    .ite (.v 4) (.blk (
      .ite (.v 1) (.call 82 [.cell (.v 0) 9, .c (.int .i64 (0)), .c (.int .i64 (10000000))] <|
       .leaf 0) <|
      .leaf 1) [([.v 5], 0), ([.c (.bool false)], 0)] [.leaf 1]) <|
    .leaf 2) [([.v 4], 0), ([.v 5], 0), ([], 1)] [.leaf 1,
    .leaf 2]) [([.v 3], 0), ([.v 4], 0), ([], 1)] [.leaf 0,
   .leaf 1]],
 [.v 3, .c (.bool false)], .e⟩
def F44 : Fn := ⟨[none, none],
 .op .len [.v 0] <|
 .op (.bin .eql) [.v 2, .c (.int .i64 (0))] <|
 .ite (.v 3) (.leaf 0) <|
 .op .len [.v 0] <|
 .op (.bin .rem) [.v 1, .v 4] <|
 .op (.idx 1) [.v 0, .v 5] <|
 .op (.elem 0 none) [.v 0, .v 5] <|
 .leaf 1,
 [.c (.int .u32 (0)), .v 7], .e⟩
def F45 : Fn := ⟨[(some 6)],
 .blk (
  .call 73 [.node [.cell (.v 0) 0, .cell (.v 0) 1], .c (.int .i64 (0)), .c (.int .i64 (60))] <|
  .ite (.v 1) (.call 73 [.node [.cell (.v 0) 2, .cell (.v 0) 3], .c (.int .i64 (-100000)), .c (.int .i64 (100000))] <|
   .ite (.v 2) (.call 73 [.node [.cell (.v 0) 4, .cell (.v 0) 5], .c (.int .i64 (-100000)), .c (.int .i64 (100000))] <|
    .leaf 0) <|
   .leaf 1) <|
  .leaf 2) [([.v 3], 0), ([.c (.bool false)], 0), ([.c (.bool false)], 0)] [.leaf 0],
 [.v 1], .e⟩
def F46 : Fn := ⟨[(some 2), none],
 .op (.conv .i64) [.v 1] <|
 .op (.bin .sub) [.cell (.v 0) 1, .cell (.v 0) 0] <|
 .op (.bin .add) [.v 3, .c (.int .i64 (1))] <|
 .op (.bin .rem) [.v 2, .v 4] <|
 .op (.bin .add) [.cell (.v 0) 0, .v 5] <|
 .leaf 0,
 [.v 6], .e⟩
def F47 : Fn := ⟨[(some 2), (some 2)],
 .blk (
  .op (.bin .geq) [.cell (.v 0) 0, .cell (.v 1) 0] <|
  .ite (.v 2) (.op (.bin .leq) [.cell (.v 0) 1, .cell (.v 1) 1] <|
   .leaf 0) <|
  .leaf 1) [([.v 3], 0), ([.c (.bool false)], 0)] [.leaf 0],
 [.v 2], .e⟩
def F49 : Fn := ⟨[(some 2), none, none],
 .call 46 [.node [.cell (.v 0) 0, .cell (.v 0) 1], .v 1] <|
 .call 23 [.v 3, .cell (.v 0) 1] <|
 .call 46 [.node [.cell (.v 4) 0, .cell (.v 4) 1], .v 2] <|
 .call 23 [.v 3, .v 5] <|
 .leaf 0,
 [.node [.cell (.v 6) 0, .cell (.v 6) 1]], .node [.e, .e]⟩
def F50 : Fn := ⟨[],
 .call 23 [.c (.int .i64 (9000)), .c (.int .i64 (30000))] <|
 .leaf 0,
 [.node [.c (.int .u8 (2)), .c (.int .i64 (0)), .c (.int .i64 (0)), .c (.int .i64 (0)), .c (.int .i64 (0)), .c (.int .i64 (0)), .c (.int .i64 (0)), .cell (.v 0) 0, .cell (.v 0) 1, .c (.int .i64 (0))]], .node [.e, .e, .e, .e, .e, .e, .e, .e, .e, .e]⟩
def F51 : Fn := ⟨[(some 10)],
 .op (.bin .eql) [.cell (.v 0) 0, .c (.int .u8 (1))] <|
 .blk (
  .ite (.v 1) (.blk (
    .call 84 [.cell (.v 0) 1, .cell (.v 0) 2] <|
    .ite (.v 2) (.call 85 [.node [.cell (.v 0) 3, .cell (.v 0) 4]] <|
     .ite (.v 3) (.call 85 [.node [.cell (.v 0) 5, .cell (.v 0) 6]] <|
      .ite (.v 4) (.call 86 [.node [.cell (.v 0) 3, .cell (.v 0) 4], .node [.cell (.v 0) 5, .cell (.v 0) 6]] <|
       .leaf 0) <|
      .leaf 1) <|
     .leaf 2) <|
    .leaf 3) [([.v 5], 0), ([.c (.bool false)], 0), ([.c (.bool false)], 0), ([.c (.bool false)], 0)] [.leaf 0]) <|
  .op (.bin .eql) [.cell (.v 0) 0, .c (.int .u8 (2))] <|
  .blk (
   .ite (.v 2) (.call 63 [.node [.cell (.v 0) 7, .cell (.v 0) 8], .c (.int .i64 (-10000000)), .c (.int .i64 (10000000))] <|
    .leaf 0) <|
   .op (.bin .eql) [.cell (.v 0) 0, .c (.int .u8 (3))] <|
   .ite (.v 3) (.blk (
     .call 84 [.cell (.v 0) 1, .cell (.v 0) 2] <|
     .ite (.v 4) (.call 87 [.cell (.v 0) 9, .c (.int .i64 (0)), .c (.int .i64 (10000000))] <|
      .leaf 0) <|
     .leaf 1) [([.v 5], 0), ([.c (.bool false)], 0)] [.leaf 1]) <|
   .leaf 2) [([.v 3], 0), ([.v 4], 0), ([], 1)] [.leaf 1,
   .leaf 2]) [([.v 2], 0), ([.v 3], 0), ([], 1)] [.leaf 0,
  .leaf 1],
 [.v 2, .c (.bool false)], .e⟩
def F52 : Fn := ⟨[none],
 .op .len [.v 0] <|
 .loop [.c (.int .i64 (0)), .c (.int .i64 (0))] (
  .op (.bin .lss) [.v 3, .v 1] <|
  .ite (.v 4) (.op (.idx 1) [.v 0, .v 3] <|
   .op (.elem 0 none) [.v 0, .v 3] <|
   .op .len [.v 6] <|
   .op (.bin .add) [.v 2, .v 7] <|
   .op (.bin .lss) [.v 8, .c (.int .i64 (0))] <|
   .ite (.v 9) (.fail) <|
   .op (.bin .add) [.v 3, .c (.int .i64 (1))] <|
   .leaf 0) <|
  .leaf 1) [([.v 8, .v 10], none), ([.v 2], some 0)] [.op (.bin .lss) [.v 2, .c (.int .i64 (0))] <|
  .ite (.v 3) (.fail) <|
  .op (.bin .sub) [.v 2, .c (.int .i64 (0))] <|
  .op (.bin .gtr) [.v 4, .c (.int .i64 (0))] <|
  .blk (
   .ite (.v 5) (.op (.appZ 3 24 [.int .i64 (0), .int .i64 (0), .int .i64 (0)]) [.v 4] <|
    .op (.sl 3 false true) [.v 6, .c (.int .i64 (0))] <|
    .leaf 0) <|
   .leaf 1) [([.v 7], 0), ([.c (.list [])], 0)] [.op .len [.v 0] <|
   .loop [.c (.int .i64 (0)), .v 6] (
    .op (.bin .lss) [.v 8, .v 7] <|
    .ite (.v 10) (.op (.idx 1) [.v 0, .v 8] <|
     .op (.elem 0 none) [.v 0, .v 8] <|
     .op (.app 3 24) [.v 9, .v 12] <|
     .op (.bin .add) [.v 8, .c (.int .i64 (1))] <|
     .leaf 0) <|
    .leaf 1) [([.v 14, .v 13], none), ([.v 9], some 0)] [.leaf 0]]],
 [.v 8], .own 3⟩
def F53 : Fn := ⟨[(some 10)],
 .blk (
  .op (.isK 0) [.cell (.v 0) 0] <|
  .ite (.v 1) (.fail) <|
  .op (.isK 1) [.cell (.v 0) 0] <|
  .ite (.v 2) (.call 89 [.node [.cell (.v 0) 0, .cell (.v 0) 1, .cell (.v 0) 2, .cell (.v 0) 3, .cell (.v 0) 4, .cell (.v 0) 5, .cell (.v 0) 6, .cell (.v 0) 7, .cell (.v 0) 8, .cell (.v 0) 9]] <|
   .leaf 0) <|
  .op (.isK 2) [.cell (.v 0) 0] <|
  .ite (.v 3) (.call 90 [.node [.cell (.v 0) 0, .cell (.v 0) 1, .cell (.v 0) 2, .cell (.v 0) 3, .cell (.v 0) 4, .cell (.v 0) 5, .cell (.v 0) 6, .cell (.v 0) 7, .cell (.v 0) 8, .cell (.v 0) 9]] <|
   .leaf 1) <|
  .op (.isK 3) [.cell (.v 0) 0] <|
  .ite (.v 4) (.call 91 [.node [.cell (.v 0) 0, .cell (.v 0) 1, .cell (.v 0) 2, .cell (.v 0) 3, .cell (.v 0) 4, .cell (.v 0) 5, .cell (.v 0) 6, .cell (.v 0) 7, .cell (.v 0) 8, .cell (.v 0) 9]] <|
   .leaf 2) <|
  .fail) [([.v 3], 0), ([.v 4], 0), ([.v 5], 0)] [.leaf 0],
 [.v 1], .own 3⟩
def F54 : Fn := ⟨[none],
 .op .len [.v 0] <|
 .loop [.c (.int .i64 (0))] (
  .op (.bin .lss) [.v 2, .v 1] <|
  .ite (.v 3) (.op (.idx 3) [.v 0, .v 2] <|
   .op (.elem 0 (some 3)) [.v 0, .v 2] <|
   .op (.sl 3 false true) [.v 0, .v 2] <|
   .op .len [.v 6] <|
   .loop [.c (.int .i64 (0))] (
    .op (.bin .lss) [.v 8, .v 7] <|
    .ite (.v 9) (.op (.idx 3) [.v 6, .v 8] <|
     .op (.elem 0 (some 3)) [.v 6, .v 8] <|
     .call 93 [.node [.cell (.v 5) 0, .cell (.v 5) 1, .cell (.v 5) 2], .node [.cell (.v 11) 0, .cell (.v 11) 1, .cell (.v 11) 2]] <|
     .blk (
      .ite (.cell (.v 12) 1) (.flat (.node [.cell (.cell (.v 12) 0) 0, .cell (.cell (.v 12) 0) 1, .cell (.cell (.v 12) 0) 2]) <|
       .call 66 [.v 0, .fn 94 [.node [.cell (.cell (.v 12) 0) 0, .cell (.cell (.v 12) 0) 1, .cell (.cell (.v 12) 0) 2]] []] <|
       .ite (.v 13) (.leaf 0) <|
       .leaf 1) <|
      .leaf 2) [([], 0), ([], 1), ([], 1)] [.leaf 0,
      .op (.bin .add) [.v 8, .c (.int .i64 (1))] <|
      .leaf 1]) <|
    .leaf 2) [([], some 0), ([.v 13], none), ([], some 1)] [.leaf 0,
    .op (.bin .add) [.v 2, .c (.int .i64 (1))] <|
    .leaf 1]) <|
  .leaf 2) [([], some 0), ([.v 8], none), ([], some 1)] [.leaf 0,
  .leaf 1],
 [.c (.bool true), .c (.bool false)], .e⟩
def F56 : Fn := ⟨[none, none],
 .op (.bin .rem) [.v 0, .v 1] <|
 .op (.bin .lss) [.v 2, .c (.int .i64 (0))] <|
 .ite (.v 3) (.op (.bin .quo) [.v 0, .v 1] <|
  .op (.bin .sub) [.v 4, .c (.int .i64 (1))] <|
  .leaf 0) <|
 .op (.bin .quo) [.v 0, .v 1] <|
 .leaf 1,
 [.v 5, .v 4], .e⟩
def F57 : Fn := ⟨[none, none],
 .op (.un .neg) [.v 0] <|
 .call 56 [.v 2, .v 1] <|
 .op (.un .neg) [.v 3] <|
 .leaf 0,
 [.v 4], .e⟩
def F58 : Fn := ⟨[none],
 .call 95 [.v 0] <|
 .call 96 [.v 0] <|
 .leaf 0,
 [.node [.v 1, .v 2]], .node [.e, .e]⟩
def F59 : Fn := ⟨[none, none],
 .op (.listOf 1 2 [.list []] [0, 1]) [.v 0, .v 1] <|
 .call 52 [.v 2] <|
 .shal 1 (.v 3) <|
 .call 54 [.v 3] <|
 .flat (.v 4) <|
 .op (.un .not) [.v 4] <|
 .ite (.v 5) (.leaf 0) <|
 .blk (
  .op .len [.v 0] <|
  .loop [.c (.int .i64 (0))] (
   .op (.bin .lss) [.v 7, .v 6] <|
   .ite (.v 8) (.op (.idx 3) [.v 0, .v 7] <|
    .op (.elem 0 (some 3)) [.v 0, .v 7] <|
    .op (.sl 3 false true) [.v 0, .v 7] <|
    .op .len [.v 11] <|
    .loop [.c (.int .i64 (0))] (
     .op (.bin .lss) [.v 13, .v 12] <|
     .ite (.v 14) (.op (.idx 3) [.v 11, .v 13] <|
      .op (.elem 0 (some 3)) [.v 11, .v 13] <|
      .call 93 [.node [.cell (.v 10) 0, .cell (.v 10) 1, .cell (.v 10) 2], .node [.cell (.v 16) 0, .cell (.v 16) 1, .cell (.v 16) 2]] <|
      .blk (
       .ite (.cell (.v 17) 1) (.flat (.node [.cell (.cell (.v 17) 0) 0, .cell (.cell (.v 17) 0) 1, .cell (.cell (.v 17) 0) 2]) <|
        .call 66 [.v 0, .fn 94 [.node [.cell (.cell (.v 17) 0) 0, .cell (.cell (.v 17) 0) 1, .cell (.cell (.v 17) 0) 2]] []] <|
        .ite (.v 18) (.op .len [.v 1] <|
         .loop [.c (.int .i64 (0))] (
          .op (.bin .lss) [.v 20, .v 19] <|
          .ite (.v 21) (.op (.idx 3) [.v 1, .v 20] <|
           .op (.elem 0 (some 3)) [.v 1, .v 20] <|
           .call 94 [.node [.cell (.cell (.v 17) 0) 0, .cell (.cell (.v 17) 0) 1, .cell (.cell (.v 17) 0) 2], .node [.cell (.v 23) 0, .cell (.v 23) 1, .cell (.v 23) 2]] <|
           .op (.un .not) [.v 24] <|
           .ite (.v 25) (.leaf 0) <|
           .op (.bin .add) [.v 20, .c (.int .i64 (1))] <|
           .leaf 1) <|
          .leaf 2) [([], some 0), ([.v 26], none), ([], some 1)] [.leaf 0,
          .leaf 1]) <|
        .leaf 2) <|
       .leaf 3) [([], 0), ([], 1), ([], 1), ([], 1)] [.leaf 0,
       .op (.bin .add) [.v 13, .c (.int .i64 (1))] <|
       .leaf 1]) <|
     .leaf 2) [([], some 0), ([.v 18], none), ([], some 1)] [.leaf 0,
     .op (.bin .add) [.v 7, .c (.int .i64 (1))] <|
     .leaf 1]) <|
   .leaf 2) [([], some 0), ([.v 13], none), ([], some 1)] [.leaf 0,
   .leaf 1]) [([.c (.int .u8 (1))], 0), ([.c (.int .u8 (2))], 0)] [.leaf 1],
 [.c (.int .u8 (0)), .v 6], .e⟩
def F60 : Fn := ⟨[none, none],
 .op .len [.v 0] <|
 .loop [.c (.int .i64 (0))] (
  .op (.bin .lss) [.v 3, .v 2] <|
  .ite (.v 4) (.op (.idx 6) [.v 0, .v 3] <|
   .op (.elem 0 (some 6)) [.v 0, .v 3] <|
   .callD (.v 1) [.node [.cell (.v 6) 0, .cell (.v 6) 1, .cell (.v 6) 2, .cell (.v 6) 3, .cell (.v 6) 4, .cell (.v 6) 5]] <|
   .flat (.node [.v 7]) <|
   .op (.un .not) [.v 7] <|
   .ite (.v 8) (.leaf 0) <|
   .op (.bin .add) [.v 3, .c (.int .i64 (1))] <|
   .leaf 1) <|
  .leaf 2) [([], some 0), ([.v 9], none), ([], some 1)] [.leaf 0,
  .leaf 1],
 [.c (.bool false), .c (.bool true)], .e⟩
def F61 : Fn := ⟨[(some 6)],
 .blk (
  .call 63 [.node [.cell (.v 0) 0, .cell (.v 0) 1], .c (.int .i64 (0)), .c (.int .i64 (60))] <|
  .ite (.v 1) (.call 63 [.node [.cell (.v 0) 2, .cell (.v 0) 3], .c (.int .i64 (-100000)), .c (.int .i64 (100000))] <|
   .ite (.v 2) (.call 63 [.node [.cell (.v 0) 4, .cell (.v 0) 5], .c (.int .i64 (-100000)), .c (.int .i64 (100000))] <|
    .leaf 0) <|
   .leaf 1) <|
  .leaf 2) [([.v 3], 0), ([.c (.bool false)], 0), ([.c (.bool false)], 0)] [.leaf 0],
 [.v 1], .e⟩
def F63 : Fn := ⟨[(some 2), none, none],
 .blk (
  .op (.bin .leq) [.v 1, .cell (.v 0) 0] <|
  .ite (.v 3) (.op (.bin .leq) [.cell (.v 0) 0, .cell (.v 0) 1] <|
   .ite (.v 4) (.op (.bin .leq) [.cell (.v 0) 1, .v 2] <|
    .leaf 0) <|
   .leaf 1) <|
  .leaf 2) [([.v 5], 0), ([.c (.bool false)], 0), ([.c (.bool false)], 0)] [.leaf 0],
 [.v 3], .e⟩
def F64 : Fn := ⟨[(some 2), (some 2)],
 .op (.un .neg) [.cell (.v 0) 0] <|
 .op (.un .neg) [.cell (.v 1) 0] <|
 .op (.listOf 3 4 [.int .i64 (0), .int .i64 (0), .int .i64 (0)] [0, 1, 2, 3]) [.c (.int .i64 (1)), .c (.int .i64 (0)), .cell (.v 0) 1, .c (.int .i64 (-1)), .c (.int .i64 (0)), .v 2, .c (.int .i64 (0)), .c (.int .i64 (1)), .cell (.v 1) 1, .c (.int .i64 (0)), .c (.int .i64 (-1)), .v 3] <|
 .leaf 0,
 [.v 4], .own 3⟩
def F65 : Fn := ⟨[none, (some 6)],
 .call 97 [.node [.cell (.v 1) 0, .cell (.v 1) 1], .node [.cell (.v 1) 2, .cell (.v 1) 3]] <|
 .call 97 [.node [.cell (.v 1) 0, .cell (.v 1) 1], .node [.cell (.v 1) 4, .cell (.v 1) 5]] <|
 .op .len [.v 0] <|
 .loop [.c (.int .i64 (0)), .c (.list [])] (
  .op (.bin .lss) [.v 5, .v 4] <|
  .ite (.v 7) (.op (.idx 3) [.v 0, .v 5] <|
   .op (.elem 0 (some 3)) [.v 0, .v 5] <|
   .op (.bin .mul) [.cell (.v 9) 0, .cell (.v 2) 0] <|
   .op (.bin .mul) [.cell (.v 9) 0, .cell (.v 2) 1] <|
   .op (.listOf 1 2 [.int .i64 (0)] [0, 1]) [.v 10, .v 11] <|
   .call 58 [.v 12] <|
   .flat (.cell (.v 13) 0) <|
   .flat (.cell (.v 13) 1) <|
   .op (.bin .mul) [.cell (.v 9) 1, .cell (.v 3) 0] <|
   .op (.bin .mul) [.cell (.v 9) 1, .cell (.v 3) 1] <|
   .op (.listOf 1 2 [.int .i64 (0)] [0, 1]) [.v 14, .v 15] <|
   .call 58 [.v 16] <|
   .flat (.cell (.v 17) 0) <|
   .flat (.cell (.v 17) 1) <|
   .op (.bin .add) [.cell (.v 13) 1, .cell (.v 17) 1] <|
   .op (.bin .add) [.cell (.v 9) 2, .v 18] <|
   .op (.listOf 3 1 [.int .i64 (0), .int .i64 (0), .int .i64 (0)] [0]) [.cell (.v 9) 0, .cell (.v 9) 1, .v 19] <|
   .op (.app 3 24) [.v 6, .v 20] <|
   .op (.bin .add) [.v 5, .c (.int .i64 (1))] <|
   .leaf 0) <|
  .leaf 1) [([.v 22, .v 21], none), ([.v 6], some 0)] [.leaf 0],
 [.v 5], .own 3⟩
def F66 : Fn := ⟨[none, none],
 .op .len [.v 0] <|
 .loop [.c (.int .i64 (0))] (
  .op (.bin .lss) [.v 3, .v 2] <|
  .ite (.v 4) (.op (.idx 3) [.v 0, .v 3] <|
   .op (.elem 0 (some 3)) [.v 0, .v 3] <|
   .callD (.v 1) [.node [.cell (.v 6) 0, .cell (.v 6) 1, .cell (.v 6) 2]] <|
   .flat (.node [.v 7]) <|
   .op (.un .not) [.v 7] <|
   .ite (.v 8) (.leaf 0) <|
   .op (.bin .add) [.v 3, .c (.int .i64 (1))] <|
   .leaf 1) <|
  .leaf 2) [([], some 0), ([.v 9], none), ([], some 1)] [.leaf 0,
  .leaf 1],
 [.c (.bool false), .c (.bool true)], .e⟩
def F67 : Fn := ⟨[(some 3)],
 .blk (
  .call 87 [.cell (.v 0) 0, .c (.int .i64 (-1000)), .c (.int .i64 (1000))] <|
  .ite (.v 1) (.call 87 [.cell (.v 0) 1, .c (.int .i64 (-1000)), .c (.int .i64 (1000))] <|
   .ite (.v 2) (.op (.bin .neq) [.cell (.v 0) 0, .c (.int .i64 (0))] <|
    .ite (.v 3) (.call 87 [.cell (.v 0) 2, .c (.int .i64 (-100000000000)), .c (.int .i64 (100000000000))] <|
     .leaf 0) <|
    .op (.bin .neq) [.cell (.v 0) 1, .c (.int .i64 (0))] <|
    .ite (.v 4) (.call 87 [.cell (.v 0) 2, .c (.int .i64 (-100000000000)), .c (.int .i64 (100000000000))] <|
     .leaf 1) <|
    .leaf 2) <|
   .leaf 3) <|
  .leaf 4) [([.v 4], 0), ([.v 5], 0), ([.c (.bool false)], 0), ([.c (.bool false)], 0), ([.c (.bool false)], 0)] [.leaf 0],
 [.v 1], .e⟩
def F68 : Fn := ⟨[none, none],
 .op .len [.v 0] <|
 .loop [.c (.int .i64 (0))] (
  .op (.bin .lss) [.v 3, .v 2] <|
  .ite (.v 4) (.op (.idx 10) [.v 0, .v 3] <|
   .op (.elem 0 (some 10)) [.v 0, .v 3] <|
   .callD (.v 1) [.node [.cell (.v 6) 0, .cell (.v 6) 1, .cell (.v 6) 2, .cell (.v 6) 3, .cell (.v 6) 4, .cell (.v 6) 5, .cell (.v 6) 6, .cell (.v 6) 7, .cell (.v 6) 8, .cell (.v 6) 9]] <|
   .flat (.node [.v 7]) <|
   .op (.un .not) [.v 7] <|
   .ite (.v 8) (.leaf 0) <|
   .op (.bin .add) [.v 3, .c (.int .i64 (1))] <|
   .leaf 1) <|
  .leaf 2) [([], some 0), ([.v 9], none), ([], some 1)] [.leaf 0,
  .leaf 1],
 [.c (.bool false), .c (.bool true)], .e⟩
def F69 : Fn := ⟨[(some 1), none, none],
 .call 98 [.cell (.v 0) 0] <|
 .op .len [.v 2] <|
 .loop [.c (.int .i64 (0)), .v 3] (
  .op (.bin .lss) [.v 5, .v 4] <|
  .ite (.v 7) (.op (.idx 1) [.v 2, .v 5] <|
   .op (.elem 0 none) [.v 2, .v 5] <|
   .op (.idx 10) [.v 1, .v 9] <|
   .op (.elem 0 (some 10)) [.v 1, .v 9] <|
   .call 53 [.node [.cell (.v 11) 0, .cell (.v 11) 1, .cell (.v 11) 2, .cell (.v 11) 3, .cell (.v 11) 4, .cell (.v 11) 5, .cell (.v 11) 6, .cell (.v 11) 7, .cell (.v 11) 8, .cell (.v 11) 9]] <|
   .op (.app 3 24) [.v 6, .v 12] <|
   .op (.bin .add) [.v 5, .c (.int .i64 (1))] <|
   .leaf 0) <|
  .leaf 1) [([.v 14, .v 13], none), ([.v 6], some 0)] [.call 54 [.v 5] <|
  .flat (.v 6) <|
  .op (.un .not) [.v 6] <|
  .leaf 0],
 [.v 7], .e⟩
def F70 : Fn := ⟨[none, none],
 .blk (
  .call 100 [.v 0] <|
  .blk (
   .op .len [.v 2] <|
   .loop [.c (.int .i64 (0))] (
    .op (.bin .lss) [.v 4, .v 3] <|
    .ite (.v 5) (.op (.idx 1) [.v 2, .v 4] <|
     .op (.elem 0 none) [.v 2, .v 4] <|
     .op (.bin .eql) [.v 7, .v 1] <|
     .ite (.v 8) (.leaf 0) <|
     .op (.bin .add) [.v 4, .c (.int .i64 (1))] <|
     .leaf 1) <|
    .leaf 2) [([.v 4], some 0), ([.v 9], none), ([], some 1)] [.leaf 0,
    .leaf 1]) [([.v 4], 0), ([.c (.int .i64 (-1))], 0)] [.op (.bin .eql) [.v 3, .c (.int .i64 (-1))] <|
   .ite (.v 4) (.leaf 0) <|
   .op (.bin .add) [.v 3, .c (.int .i64 (1))] <|
   .loop [.v 3, .v 5, .v 2] (
    .op .len [.v 8] <|
    .op (.bin .lss) [.v 7, .v 9] <|
    .ite (.v 10) (.op (.idx 1) [.v 8, .v 7] <|
     .op (.elem 0 none) [.v 8, .v 7] <|
     .op (.bin .eql) [.v 12, .v 1] <|
     .op (.un .not) [.v 13] <|
     .blk (
      .ite (.v 14) (.op (.idx 1) [.v 8, .v 6] <|
       .op (.set 0) [.v 8, .v 6, .v 12] <|
       .op (.bin .add) [.v 6, .c (.int .i64 (1))] <|
       .leaf 0) <|
      .leaf 1) [([.v 17, .v 16], 0), ([.v 6, .v 8], 0)] [.op (.bin .add) [.v 7, .c (.int .i64 (1))] <|
      .leaf 0]) <|
    .leaf 1) [([.v 15, .v 17, .v 16], none), ([.v 6, .v 8], some 0)] [.op (.sl 1 true false) [.v 7, .v 6] <|
    .op (.clr 1 [.int .i64 (0)]) [.v 7, .v 6] <|
    .op (.sl 1 false true) [.v 9, .v 6] <|
    .leaf 1]]) [([.v 2], 0), ([.v 10], 0)] [.leaf 0],
 [.v 2], .own 1⟩
def F71 : Fn := ⟨[(some 1)],
 .call 64 [.node [.c (.int .i64 (0)), .c (.int .i64 (0))], .node [.c (.int .i64 (0)), .c (.int .i64 (0))]] <|
 .blk (
  .op .len [.cell (.v 0) 0] <|
  .op .len [.v 1] <|
  .op (.bin .lss) [.v 2, .v 3] <|
  .ite (.v 4) (.leaf 0) <|
  .op .len [.cell (.v 0) 0] <|
  .op (.bin .gtr) [.v 5, .c (.int .i64 (40))] <|
  .ite (.v 6) (.leaf 1) <|
  .call 66 [.cell (.v 0) 0, .fn 67 [] []] <|
  .op (.un .not) [.v 7] <|
  .leaf 2) [([.c (.bool true)], 0), ([.c (.bool true)], 0), ([.v 8], 0)] [.ite (.v 2) (.leaf 0) <|
  .op .len [.v 1] <|
  .loop [.c (.int .i64 (0))] (
   .op (.bin .lss) [.v 4, .v 3] <|
   .ite (.v 5) (.op (.idx 3) [.v 1, .v 4] <|
    .op (.elem 0 (some 3)) [.v 1, .v 4] <|
    .op (.idx 3) [.cell (.v 0) 0, .v 4] <|
    .op (.elem 0 (some 3)) [.cell (.v 0) 0, .v 4] <|
    .blk (
     .op (.bin .neq) [.cell (.v 9) 0, .cell (.v 7) 0] <|
     .ite (.v 10) (.leaf 0) <|
     .op (.bin .neq) [.cell (.v 9) 1, .cell (.v 7) 1] <|
     .leaf 1) [([.c (.bool true)], 0), ([.v 11], 0)] [.ite (.v 10) (.leaf 0) <|
     .op (.bin .add) [.v 4, .c (.int .i64 (1))] <|
     .leaf 1]) <|
   .leaf 2) [([], some 0), ([.v 11], none), ([], some 1)] [.leaf 1,
   .leaf 2]],
 [.c (.bool false), .c (.bool false), .c (.bool true)], .e⟩
def F72 : Fn := ⟨[none, none],
 .op (.app 3 24) [.c (.list []), .v 0] <|
 .op (.app 3 24) [.v 2, .v 1] <|
 .leaf 0,
 [.v 3], .own 3⟩
def F73 : Fn := ⟨[(some 2), none, none],
 .blk (
  .call 82 [.cell (.v 0) 0, .v 1, .cell (.v 0) 1] <|
  .ite (.v 3) (.op (.bin .leq) [.cell (.v 0) 1, .v 2] <|
   .leaf 0) <|
  .leaf 1) [([.v 4], 0), ([.c (.bool false)], 0)] [.leaf 0],
 [.v 3], .e⟩
def F74 : Fn := ⟨[(some 1)],
 .op .len [.cell (.v 0) 0] <|
 .call 82 [.v 1, .c (.int .i64 (4)), .c (.int .i64 (40))] <|
 .op (.un .not) [.v 2] <|
 .ite (.v 3) (.leaf 0) <|
 .loop [.c (.int .i64 (0))] (
  .op .len [.cell (.v 0) 0] <|
  .op (.bin .lss) [.v 4, .v 5] <|
  .ite (.v 6) (.op (.idx 3) [.cell (.v 0) 0, .v 4] <|
   .op (.elem 0 (some 3)) [.cell (.v 0) 0, .v 4] <|
   .blk (
    .call 82 [.cell (.v 8) 0, .c (.int .i64 (-1000)), .c (.int .i64 (1000))] <|
    .op (.un .not) [.v 9] <|
    .ite (.v 10) (.leaf 0) <|
    .call 82 [.cell (.v 8) 1, .c (.int .i64 (-1000)), .c (.int .i64 (1000))] <|
    .op (.un .not) [.v 11] <|
    .ite (.v 12) (.leaf 1) <|
    .op (.bin .eql) [.cell (.v 8) 0, .c (.int .i64 (0))] <|
    .ite (.v 13) (.op (.bin .eql) [.cell (.v 8) 1, .c (.int .i64 (0))] <|
     .ite (.v 14) (.leaf 2) <|
     .call 82 [.cell (.v 8) 2, .c (.int .i64 (-100000000000)), .c (.int .i64 (100000000000))] <|
     .op (.un .not) [.v 15] <|
     .leaf 3) <|
    .call 82 [.cell (.v 8) 2, .c (.int .i64 (-100000000000)), .c (.int .i64 (100000000000))] <|
    .op (.un .not) [.v 14] <|
    .leaf 4) [([.c (.bool true)], 0), ([.c (.bool true)], 0), ([.c (.bool true)], 0), ([.v 16], 0), ([.v 15], 0)] [.ite (.v 9) (.leaf 0) <|
    .op (.bin .add) [.v 4, .c (.int .i64 (1))] <|
    .leaf 1]) <|
  .leaf 2) [([], some 0), ([.v 10], none), ([], some 1)] [.leaf 1,
  .blk (
   .op (.idx 3) [.cell (.v 0) 0, .c (.int .i64 (0))] <|
   .op (.elem 0 none) [.cell (.v 0) 0, .c (.int .i64 (0))] <|
   .op (.bin .eql) [.v 5, .c (.int .i64 (1))] <|
   .ite (.v 6) (.op (.idx 3) [.cell (.v 0) 0, .c (.int .i64 (0))] <|
    .op (.elem 1 none) [.cell (.v 0) 0, .c (.int .i64 (0))] <|
    .op (.bin .eql) [.v 8, .c (.int .i64 (0))] <|
    .ite (.v 9) (.op (.idx 3) [.cell (.v 0) 0, .c (.int .i64 (1))] <|
     .op (.elem 0 none) [.cell (.v 0) 0, .c (.int .i64 (1))] <|
     .op (.bin .eql) [.v 11, .c (.int .i64 (-1))] <|
     .ite (.v 12) (.op (.idx 3) [.cell (.v 0) 0, .c (.int .i64 (1))] <|
      .op (.elem 1 none) [.cell (.v 0) 0, .c (.int .i64 (1))] <|
      .op (.bin .eql) [.v 14, .c (.int .i64 (0))] <|
      .ite (.v 15) (.op (.idx 3) [.cell (.v 0) 0, .c (.int .i64 (2))] <|
       .op (.elem 0 none) [.cell (.v 0) 0, .c (.int .i64 (2))] <|
       .op (.bin .eql) [.v 17, .c (.int .i64 (0))] <|
       .ite (.v 18) (.op (.idx 3) [.cell (.v 0) 0, .c (.int .i64 (2))] <|
        .op (.elem 1 none) [.cell (.v 0) 0, .c (.int .i64 (2))] <|
        .op (.bin .eql) [.v 20, .c (.int .i64 (1))] <|
        .ite (.v 21) (.op (.idx 3) [.cell (.v 0) 0, .c (.int .i64 (3))] <|
         .op (.elem 0 none) [.cell (.v 0) 0, .c (.int .i64 (3))] <|
         .op (.bin .eql) [.v 23, .c (.int .i64 (0))] <|
         .ite (.v 24) (.op (.idx 3) [.cell (.v 0) 0, .c (.int .i64 (3))] <|
          .op (.elem 1 none) [.cell (.v 0) 0, .c (.int .i64 (3))] <|
          .op (.bin .eql) [.v 26, .c (.int .i64 (-1))] <|
          .leaf 0) <|
         .leaf 1) <|
        .leaf 2) <|
       .leaf 3) <|
      .leaf 4) <|
     .leaf 5) <|
    .leaf 6) <|
   .leaf 7) [([.v 27], 0), ([.c (.bool false)], 0), ([.c (.bool false)], 0), ([.c (.bool false)], 0), ([.c (.bool false)], 0), ([.c (.bool false)], 0), ([.c (.bool false)], 0), ([.c (.bool false)], 0)] [.leaf 2]],
 [.c (.bool false), .c (.bool false), .v 4], .e⟩
def F75 : Fn := ⟨[none],
 .loop [.c (.int .i64 (0)), .c (.list [])] (
  .op .len [.v 0] <|
  .op (.bin .lss) [.v 1, .v 3] <|
  .ite (.v 4) (.loop [.c (.int .i64 (0)), .v 2] (
    .op (.bin .lss) [.v 5, .v 1] <|
    .ite (.v 7) (.blk (
      .op (.idx 3) [.v 0, .v 5] <|
      .op (.elem 0 (some 3)) [.v 0, .v 5] <|
      .op (.idx 3) [.v 0, .v 1] <|
      .op (.elem 0 (some 3)) [.v 0, .v 1] <|
      .op (.bin .mul) [.cell (.v 9) 2, .cell (.v 11) 1] <|
      .op (.bin .mul) [.cell (.v 11) 2, .cell (.v 9) 1] <|
      .op (.bin .sub) [.v 12, .v 13] <|
      .op (.bin .mul) [.cell (.v 9) 0, .cell (.v 11) 2] <|
      .op (.bin .mul) [.cell (.v 11) 0, .cell (.v 9) 2] <|
      .op (.bin .sub) [.v 15, .v 16] <|
      .op (.bin .mul) [.cell (.v 9) 0, .cell (.v 11) 1] <|
      .op (.bin .mul) [.cell (.v 11) 0, .cell (.v 9) 1] <|
      .op (.bin .sub) [.v 18, .v 19] <|
      .op (.bin .eql) [.v 20, .c (.int .i64 (0))] <|
      .ite (.v 21) (.leaf 0) <|
      .op (.bin .lss) [.v 20, .c (.int .i64 (0))] <|
      .blk (
       .ite (.v 22) (.op (.un .neg) [.v 14] <|
        .op (.un .neg) [.v 17] <|
        .op (.un .neg) [.v 20] <|
        .leaf 0) <|
       .leaf 1) [([.v 23, .v 24, .v 25], 0), ([.v 14, .v 17, .v 20], 0)] [.loop [.c (.bool true), .c (.int .i64 (0))] (
        .blk (
         .op .len [.v 0] <|
         .op (.bin .lss) [.v 27, .v 28] <|
         .ite (.v 29) (.leaf 0) <|
         .leaf 1) [([.v 26], 0), ([.c (.bool false)], 0)] [.ite (.v 28) (.op (.idx 3) [.v 0, .v 27] <|
          .op (.elem 0 none) [.v 0, .v 27] <|
          .op (.bin .mul) [.v 30, .v 23] <|
          .op (.idx 3) [.v 0, .v 27] <|
          .op (.elem 1 none) [.v 0, .v 27] <|
          .op (.bin .mul) [.v 33, .v 24] <|
          .op (.bin .add) [.v 31, .v 34] <|
          .op (.idx 3) [.v 0, .v 27] <|
          .op (.elem 2 none) [.v 0, .v 27] <|
          .op (.bin .mul) [.v 37, .v 25] <|
          .op (.bin .leq) [.v 35, .v 38] <|
          .op (.bin .add) [.v 27, .c (.int .i64 (1))] <|
          .leaf 0) <|
         .leaf 1]) [([.v 39, .v 40], none), ([.v 26], some 0)] [.blk (
         .ite (.v 26) (.op (.listOf 3 1 [.int .i64 (0), .int .i64 (0), .int .i64 (0)] [0]) [.v 23, .v 24, .v 25] <|
          .op (.app 3 24) [.v 6, .v 27] <|
          .leaf 0) <|
         .leaf 1) [([.v 28], 0), ([.v 6], 0)] [.leaf 1]]]) [([.v 6], 0), ([.v 27], 0)] [.op (.bin .add) [.v 5, .c (.int .i64 (1))] <|
      .leaf 0]) <|
    .leaf 1) [([.v 9, .v 8], none), ([.v 6], some 0)] [.op (.bin .add) [.v 1, .c (.int .i64 (1))] <|
    .leaf 0]) <|
  .leaf 1) [([.v 6, .v 5], none), ([.v 2], some 0)] [.leaf 0],
 [.v 1], .own 3⟩
def F76 : Fn := ⟨[none, none],
 .op (.bin .quo) [.v 0, .v 1] <|
 .op (.bin .mul) [.v 2, .v 1] <|
 .op (.bin .gtr) [.v 3, .v 0] <|
 .blk (
  .ite (.v 4) (.op (.bin .sub) [.v 2, .c (.int .i64 (1))] <|
   .leaf 0) <|
  .leaf 1) [([.v 5], 0), ([.v 2], 0)] [.leaf 0],
 [.v 5], .e⟩
def F77 : Fn := ⟨[(some 1), none, none, none],
 .call 74 [.node [.cell (.v 0) 0]] <|
 .op (.un .not) [.v 4] <|
 .ite (.v 5) (.leaf 0) <|
 .blk (
  .call 82 [.v 1, .c (.int .i64 (-10000000)), .c (.int .i64 (10000000))] <|
  .op (.un .not) [.v 6] <|
  .ite (.v 7) (.leaf 0) <|
  .call 82 [.v 2, .c (.int .i64 (-10000000)), .c (.int .i64 (10000000))] <|
  .op (.un .not) [.v 8] <|
  .ite (.v 9) (.leaf 1) <|
  .call 82 [.v 3, .c (.int .i64 (0)), .c (.int .i64 (10000000))] <|
  .op (.un .not) [.v 10] <|
  .leaf 2) [([.c (.bool true)], 0), ([.c (.bool true)], 0), ([.v 11], 0)] [.ite (.v 6) (.leaf 1) <|
  .call 75 [.cell (.v 0) 0] <|
  .op .len [.v 7] <|
  .op (.bin .eql) [.v 8, .c (.int .i64 (0))] <|
  .ite (.v 9) (.leaf 2) <|
  .leaf 3],
 [.c (.int .i64 (40)), .c (.int .i64 (2)), .c (.int .i64 (43)), .c (.int .i64 (0))], .e⟩
def F78 : Fn := ⟨[none, none, none, none],
 .call 102 [.v 1, .v 2, .v 3] <|
 .call 72 [.v 0, .v 4] <|
 .shal 1 (.v 5) <|
 .call 75 [.v 5] <|
 .shal 1 (.v 6) <|
 .op .len [.v 6] <|
 .op (.bin .eql) [.v 7, .c (.int .i64 (0))] <|
 .ite (.v 8) (.leaf 0) <|
 .call 75 [.v 0] <|
 .loop [.c (.int .i64 (0))] (
  .op .len [.v 9] <|
  .op (.bin .lss) [.v 10, .v 11] <|
  .ite (.v 12) (.blk (
    .op (.idx 3) [.v 9, .v 10] <|
    .op (.elem 0 none) [.v 9, .v 10] <|
    .op (.bin .add) [.v 1, .v 3] <|
    .op (.idx 3) [.v 9, .v 10] <|
    .op (.elem 2 none) [.v 9, .v 10] <|
    .op (.bin .mul) [.v 15, .v 17] <|
    .op (.bin .gtr) [.v 14, .v 18] <|
    .ite (.v 19) (.leaf 0) <|
    .op (.idx 3) [.v 9, .v 10] <|
    .op (.elem 0 none) [.v 9, .v 10] <|
    .op (.bin .sub) [.v 1, .v 3] <|
    .op (.idx 3) [.v 9, .v 10] <|
    .op (.elem 2 none) [.v 9, .v 10] <|
    .op (.bin .mul) [.v 22, .v 24] <|
    .op (.bin .lss) [.v 21, .v 25] <|
    .ite (.v 26) (.leaf 1) <|
    .op (.idx 3) [.v 9, .v 10] <|
    .op (.elem 1 none) [.v 9, .v 10] <|
    .op (.bin .add) [.v 2, .v 3] <|
    .op (.idx 3) [.v 9, .v 10] <|
    .op (.elem 2 none) [.v 9, .v 10] <|
    .op (.bin .mul) [.v 29, .v 31] <|
    .op (.bin .gtr) [.v 28, .v 32] <|
    .ite (.v 33) (.leaf 2) <|
    .op (.idx 3) [.v 9, .v 10] <|
    .op (.elem 1 none) [.v 9, .v 10] <|
    .op (.bin .sub) [.v 2, .v 3] <|
    .op (.idx 3) [.v 9, .v 10] <|
    .op (.elem 2 none) [.v 9, .v 10] <|
    .op (.bin .mul) [.v 36, .v 38] <|
    .op (.bin .lss) [.v 35, .v 39] <|
    .leaf 3) [([.c (.bool true)], 0), ([.c (.bool true)], 0), ([.c (.bool true)], 0), ([.v 40], 0)] [.ite (.v 13) (.leaf 0) <|
    .op (.bin .add) [.v 10, .c (.int .i64 (1))] <|
    .leaf 1]) <|
  .leaf 2) [([], some 0), ([.v 14], none), ([], some 1)] [.leaf 1,
  .leaf 2],
 [.c (.int .u8 (0)), .c (.int .u8 (1)), .c (.int .u8 (2))], .e⟩
def F81 : Fn := ⟨[none, (some 6)],
 .call 103 [.node [.cell (.v 1) 0, .cell (.v 1) 1], .node [.cell (.v 1) 2, .cell (.v 1) 3]] <|
 .call 103 [.node [.cell (.v 1) 0, .cell (.v 1) 1], .node [.cell (.v 1) 4, .cell (.v 1) 5]] <|
 .loop [.c (.int .i64 (0)), .c (.list [])] (
  .op .len [.v 0] <|
  .op (.bin .lss) [.v 4, .v 6] <|
  .ite (.v 7) (.op (.idx 3) [.v 0, .v 4] <|
   .op (.elem 0 (some 3)) [.v 0, .v 4] <|
   .op (.bin .mul) [.cell (.v 9) 0, .cell (.v 2) 0] <|
   .op (.bin .mul) [.cell (.v 9) 0, .cell (.v 2) 1] <|
   .op (.mx true) [.v 10, .v 11] <|
   .op (.bin .mul) [.cell (.v 9) 1, .cell (.v 3) 0] <|
   .op (.bin .mul) [.cell (.v 9) 1, .cell (.v 3) 1] <|
   .op (.mx true) [.v 13, .v 14] <|
   .op (.bin .add) [.v 12, .v 15] <|
   .op (.bin .add) [.cell (.v 9) 2, .v 16] <|
   .call 82 [.v 17, .c (.int .i64 (-100000000000)), .c (.int .i64 (100000000000))] <|
   .op (.un .not) [.v 18] <|
   .ite (.v 19) (.leaf 0) <|
   .op (.listOf 3 1 [.int .i64 (0), .int .i64 (0), .int .i64 (0)] [0]) [.cell (.v 9) 0, .cell (.v 9) 1, .v 17] <|
   .op (.app 3 24) [.v 5, .v 20] <|
   .op (.bin .add) [.v 4, .c (.int .i64 (1))] <|
   .leaf 1) <|
  .leaf 2) [([], some 0), ([.v 22, .v 21], none), ([.v 5], some 1)] [.leaf 0,
  .leaf 1],
 [.node [.c (.list []), .c (.bool false)], .node [.v 4, .c (.bool true)]], .tup [.own 3, .e]⟩
def F82 : Fn := ⟨[none, none, none],
 .blk (
  .op (.bin .geq) [.v 0, .v 1] <|
  .ite (.v 3) (.op (.bin .leq) [.v 0, .v 2] <|
   .leaf 0) <|
  .leaf 1) [([.v 4], 0), ([.c (.bool false)], 0)] [.leaf 0],
 [.v 3], .e⟩
def F83 : Fn := ⟨[(some 2)],
 .blk (
  .call 82 [.cell (.v 0) 0, .c (.int .i64 (-1000)), .c (.int .i64 (1000))] <|
  .ite (.v 1) (.call 82 [.cell (.v 0) 1, .c (.int .i64 (-1000)), .c (.int .i64 (1000))] <|
   .leaf 0) <|
  .leaf 1) [([.v 2], 0), ([.c (.bool false)], 0)] [.leaf 0],
 [.v 1], .e⟩
def F84 : Fn := ⟨[none, none],
 .blk (
  .call 87 [.v 0, .c (.int .i64 (-10000000)), .c (.int .i64 (10000000))] <|
  .ite (.v 2) (.call 87 [.v 1, .c (.int .i64 (-10000000)), .c (.int .i64 (10000000))] <|
   .leaf 0) <|
  .leaf 1) [([.v 3], 0), ([.c (.bool false)], 0)] [.leaf 0],
 [.v 2], .e⟩
def F85 : Fn := ⟨[(some 2)],
 .blk (
  .call 87 [.cell (.v 0) 0, .c (.int .i64 (-1000)), .c (.int .i64 (1000))] <|
  .ite (.v 1) (.call 87 [.cell (.v 0) 1, .c (.int .i64 (-1000)), .c (.int .i64 (1000))] <|
   .leaf 0) <|
  .leaf 1) [([.v 2], 0), ([.c (.bool false)], 0)] [.leaf 0],
 [.v 1], .e⟩
def F86 : Fn := ⟨[(some 2), (some 2)],
 .op (.bin .mul) [.cell (.v 0) 0, .cell (.v 1) 1] <|
 .op (.bin .mul) [.cell (.v 0) 1, .cell (.v 1) 0] <|
 .op (.bin .sub) [.v 2, .v 3] <|
 .op (.bin .gtr) [.v 4, .c (.int .i64 (0))] <|
 .leaf 0,
 [.v 5], .e⟩
def F87 : Fn := ⟨[none, none, none],
 .blk (
  .op (.bin .leq) [.v 1, .v 0] <|
  .ite (.v 3) (.op (.bin .leq) [.v 0, .v 2] <|
   .leaf 0) <|
  .leaf 1) [([.v 4], 0), ([.c (.bool false)], 0)] [.leaf 0],
 [.v 3], .e⟩
def F89 : Fn := ⟨[(some 10)],
 .op (.un .neg) [.cell (.v 0) 4] <|
 .op (.bin .mul) [.cell (.v 0) 3, .cell (.v 0) 2] <|
 .op (.bin .mul) [.cell (.v 0) 4, .cell (.v 0) 1] <|
 .op (.bin .sub) [.v 2, .v 3] <|
 .op (.un .neg) [.cell (.v 0) 5] <|
 .op (.bin .mul) [.cell (.v 0) 6, .cell (.v 0) 1] <|
 .op (.bin .mul) [.cell (.v 0) 5, .cell (.v 0) 2] <|
 .op (.bin .sub) [.v 6, .v 7] <|
 .op (.listOf 3 2 [.int .i64 (0), .int .i64 (0), .int .i64 (0)] [0, 1]) [.v 1, .cell (.v 0) 3, .v 4, .cell (.v 0) 6, .v 5, .v 8] <|
 .leaf 0,
 [.v 9], .own 3⟩
def F90 : Fn := ⟨[(some 10)],
 .op (.un .neg) [.cell (.v 0) 7] <|
 .op (.listOf 3 2 [.int .i64 (0), .int .i64 (0), .int .i64 (0)] [0, 1]) [.c (.int .i64 (0)), .c (.int .i64 (1)), .cell (.v 0) 8, .c (.int .i64 (0)), .c (.int .i64 (-1)), .v 1] <|
 .leaf 0,
 [.v 2], .own 3⟩
def F91 : Fn := ⟨[(some 10)],
 .op (.bin .sub) [.cell (.v 0) 1, .cell (.v 0) 9] <|
 .op (.bin .add) [.cell (.v 0) 1, .cell (.v 0) 9] <|
 .op (.bin .sub) [.cell (.v 0) 2, .cell (.v 0) 9] <|
 .op (.bin .add) [.cell (.v 0) 2, .cell (.v 0) 9] <|
 .call 64 [.node [.v 1, .v 2], .node [.v 3, .v 4]] <|
 .leaf 0,
 [.v 5], .own 3⟩
def F93 : Fn := ⟨[(some 3), (some 3)],
 .op (.bin .mul) [.cell (.v 0) 2, .cell (.v 1) 1] <|
 .op (.bin .mul) [.cell (.v 1) 2, .cell (.v 0) 1] <|
 .op (.bin .sub) [.v 2, .v 3] <|
 .op (.bin .mul) [.cell (.v 0) 0, .cell (.v 1) 2] <|
 .op (.bin .mul) [.cell (.v 1) 0, .cell (.v 0) 2] <|
 .op (.bin .sub) [.v 5, .v 6] <|
 .op (.bin .mul) [.cell (.v 0) 0, .cell (.v 1) 1] <|
 .op (.bin .mul) [.cell (.v 1) 0, .cell (.v 0) 1] <|
 .op (.bin .sub) [.v 8, .v 9] <|
 .op (.bin .lss) [.v 10, .c (.int .i64 (0))] <|
 .blk (
  .ite (.v 11) (.op (.un .neg) [.v 4] <|
   .op (.un .neg) [.v 7] <|
   .op (.un .neg) [.v 10] <|
   .leaf 0) <|
  .leaf 1) [([.v 12, .v 13, .v 14], 0), ([.v 4, .v 7, .v 10], 0)] [.op (.bin .gtr) [.v 14, .c (.int .i64 (0))] <|
  .leaf 0],
 [.node [.node [.v 12, .v 13, .v 14], .v 15]], .tup [.node [.e, .e, .e], .e]⟩
def F94 : Fn := ⟨[(some 3), (some 3)],
 .op (.bin .mul) [.cell (.v 1) 0, .cell (.v 0) 0] <|
 .op (.bin .mul) [.cell (.v 1) 1, .cell (.v 0) 1] <|
 .op (.bin .add) [.v 2, .v 3] <|
 .op (.bin .mul) [.cell (.v 1) 2, .cell (.v 0) 2] <|
 .op (.bin .leq) [.v 4, .v 5] <|
 .leaf 0,
 [.v 6], .e⟩
def F95 : Fn := ⟨[none],
 .op .len [.v 0] <|
 .op (.bin .lss) [.v 1, .c (.int .i64 (1))] <|
 .ite (.v 2) (.fail) <|
 .op (.idx 1) [.v 0, .c (.int .i64 (0))] <|
 .op (.elem 0 none) [.v 0, .c (.int .i64 (0))] <|
 .loop [.v 4, .c (.int .i64 (1))] (
  .op .len [.v 0] <|
  .op (.bin .lss) [.v 6, .v 7] <|
  .ite (.v 8) (.op (.idx 1) [.v 0, .v 6] <|
   .op (.elem 0 none) [.v 0, .v 6] <|
   .op (.mx false) [.v 5, .v 10] <|
   .op (.bin .add) [.v 6, .c (.int .i64 (1))] <|
   .leaf 0) <|
  .leaf 1) [([.v 11, .v 12], none), ([.v 5], some 0)] [.leaf 0],
 [.v 5], .e⟩
def F96 : Fn := ⟨[none],
 .op .len [.v 0] <|
 .op (.bin .lss) [.v 1, .c (.int .i64 (1))] <|
 .ite (.v 2) (.fail) <|
 .op (.idx 1) [.v 0, .c (.int .i64 (0))] <|
 .op (.elem 0 none) [.v 0, .c (.int .i64 (0))] <|
 .loop [.v 4, .c (.int .i64 (1))] (
  .op .len [.v 0] <|
  .op (.bin .lss) [.v 6, .v 7] <|
  .ite (.v 8) (.op (.idx 1) [.v 0, .v 6] <|
   .op (.elem 0 none) [.v 0, .v 6] <|
   .op (.mx true) [.v 5, .v 10] <|
   .op (.bin .add) [.v 6, .c (.int .i64 (1))] <|
   .leaf 0) <|
  .leaf 1) [([.v 11, .v 12], none), ([.v 5], some 0)] [.leaf 0],
 [.v 5], .e⟩
def F97 : Fn := ⟨[(some 2), (some 2)],
 .op (.bin .mul) [.cell (.v 0) 0, .cell (.v 1) 0] <|
 .op (.bin .mul) [.cell (.v 0) 0, .cell (.v 1) 1] <|
 .op (.bin .mul) [.cell (.v 0) 1, .cell (.v 1) 0] <|
 .op (.bin .mul) [.cell (.v 0) 1, .cell (.v 1) 1] <|
 .op (.listOf 1 4 [.int .i64 (0)] [0, 1, 2, 3]) [.v 2, .v 3, .v 4, .v 5] <|
 .call 58 [.v 6] <|
 .flat (.cell (.v 7) 0) <|
 .flat (.cell (.v 7) 1) <|
 .leaf 0,
 [.node [.cell (.v 7) 0, .cell (.v 7) 1]], .node [.e, .e]⟩
def F98 : Fn := ⟨[none],
 .op (.app 3 24) [.c (.list []), .v 0] <|
 .leaf 0,
 [.v 1], .own 3⟩
def F100 : Fn := ⟨[none],
 .op (.app 1 8) [.c (.list []), .v 0] <|
 .leaf 0,
 [.v 1], .own 1⟩
def F102 : Fn := ⟨[none, none, none],
 .op (.bin .add) [.v 0, .v 2] <|
 .op (.bin .sub) [.v 2, .v 0] <|
 .op (.bin .add) [.v 1, .v 2] <|
 .op (.bin .sub) [.v 2, .v 1] <|
 .op (.listOf 3 4 [.int .i64 (0), .int .i64 (0), .int .i64 (0)] [0, 1, 2, 3]) [.c (.int .i64 (1)), .c (.int .i64 (0)), .v 3, .c (.int .i64 (-1)), .c (.int .i64 (0)), .v 4, .c (.int .i64 (0)), .c (.int .i64 (1)), .v 5, .c (.int .i64 (0)), .c (.int .i64 (-1)), .v 6] <|
 .leaf 0,
 [.v 7], .own 3⟩
def F103 : Fn := ⟨[(some 2), (some 2)],
 .op (.bin .mul) [.cell (.v 0) 0, .cell (.v 1) 0] <|
 .op (.bin .mul) [.cell (.v 0) 0, .cell (.v 1) 1] <|
 .op (.bin .mul) [.cell (.v 0) 1, .cell (.v 1) 0] <|
 .op (.bin .mul) [.cell (.v 0) 1, .cell (.v 1) 1] <|
 .op (.mx false) [.v 2, .v 3, .v 4, .v 5] <|
 .op (.mx true) [.v 2, .v 3, .v 4, .v 5] <|
 .leaf 0,
 [.node [.v 6, .v 7]], .node [.e, .e]⟩
def FN (f : FuncId) : Option Fn :=
  match f with
  | 8 => some F8
  | 9 => some F9
  | 11 => some F11
  | 12 => some F12
  | 13 => some F13
  | 14 => some F14
  | 15 => some F15
  | 16 => some F16
  | 17 => some F17
  | 18 => some F18
  | 19 => some F19
  | 20 => some F20
  | 21 => some F21
  | 22 => some F22
  | 23 => some F23
  | 24 => some F24
  | 25 => some F25
  | 26 => some F26
  | 27 => some F27
  | 28 => some F28
  | 29 => some F29
  | 30 => some F30
  | 31 => some F31
  | 32 => some F32
  | 33 => some F33
  | 34 => some F34
  | 37 => some F37
  | 38 => some F38
  | 40 => some F40
  | 41 => some F41
  | 42 => some F42
  | 44 => some F44
  | 45 => some F45
  | 46 => some F46
  | 47 => some F47
  | 49 => some F49
  | 50 => some F50
  | 51 => some F51
  | 52 => some F52
  | 53 => some F53
  | 54 => some F54
  | 56 => some F56
  | 57 => some F57
  | 58 => some F58
  | 59 => some F59
  | 60 => some F60
  | 61 => some F61
  | 63 => some F63
  | 64 => some F64
  | 65 => some F65
  | 66 => some F66
  | 67 => some F67
  | 68 => some F68
  | 69 => some F69
  | 70 => some F70
  | 71 => some F71
  | 72 => some F72
  | 73 => some F73
  | 74 => some F74
  | 75 => some F75
  | 76 => some F76
  | 77 => some F77
  | 78 => some F78
  | 81 => some F81
  | 82 => some F82
  | 83 => some F83
  | 84 => some F84
  | 85 => some F85
  | 86 => some F86
  | 87 => some F87
  | 89 => some F89
  | 90 => some F90
  | 91 => some F91
  | 93 => some F93
  | 94 => some F94
  | 95 => some F95
  | 96 => some F96
  | 97 => some F97
  | 98 => some F98
  | 100 => some F100
  | 102 => some F102
  | 103 => some F103
  | _ => none
end Go.Q
