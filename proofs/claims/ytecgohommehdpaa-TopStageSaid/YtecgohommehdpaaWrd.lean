/- The functions as trees. -/
import Derived.Test.YtecgohommehdpaaJL
import Derived.Test.YtecgohommehdpaaChecked
set_option linter.unusedVariables false
set_option maxRecDepth 100000
namespace Go.Q
open Go.V
open Go.Proofs.Try (prog)
def isRef (f : FuncId) : Bool := [16, 137, 108, 126].contains f
def dmR (f : FuncId) : Nat := ([((108 : FuncId), 2)].find? (·.1 == f)).elim 0 (·.2)
noncomputable def TP : FuncId → Option IFn := fun f => cFnD prog (isRef f) (dmR f) f
theorem cFn_ref {P : Program} {b : Bool} {dm : Nat} {f : FuncId} {fn : IFn} (h : cFnD P b dm f = some fn) : fn.byref = b ∧ fn.dm = dm := by
  unfold cFnD at h
  split at h
  · cases h
  · split at h
    · cases h
    · split at h
      · cases h
      · split at h
        · cases h; exact ⟨rfl, rfl⟩
        · cases h
theorem TP_ok : TOK prog TP := fun f fn h => by
  obtain ⟨h1, h2⟩ := cFn_ref h
  rw [h1, h2]; exact h
theorem mixed : prog.follows .mixedOrders = true := by kernel_rfl
def F9 : Fn := ⟨[(some 17), (some 7), (some 8), (some 2), none, none, (some 2), none],
 .call 38 [] <|
 .op (.un .not) [.v 8] <|
 .ite (.v 9) (.leaf 0) <|
 .blk (
  .call 39 [.node [.cell (.v 0) 0, .cell (.v 0) 1, .cell (.v 0) 2, .cell (.v 0) 3, .cell (.v 0) 4, .cell (.v 0) 5, .cell (.v 0) 6, .cell (.v 0) 7, .cell (.v 0) 8, .cell (.v 0) 9, .cell (.v 0) 10, .cell (.v 0) 11, .cell (.v 0) 12, .cell (.v 0) 13, .cell (.v 0) 14, .cell (.v 0) 15, .cell (.v 0) 16], .node [.cell (.v 1) 0, .cell (.v 1) 1, .cell (.v 1) 2, .cell (.v 1) 3, .cell (.v 1) 4, .cell (.v 1) 5, .cell (.v 1) 6]] <|
  .op (.bin .neq) [.v 10, .c (.int .i64 (0))] <|
  .ite (.v 11) (.leaf 0) <|
  .call 40 [.node [.cell (.v 2) 0, .cell (.v 2) 1, .cell (.v 2) 2, .cell (.v 2) 3, .cell (.v 2) 4, .cell (.v 2) 5, .cell (.v 2) 6, .cell (.v 2) 7]] <|
  .op (.un .not) [.v 12] <|
  .ite (.v 13) (.leaf 1) <|
  .call 15 [.node [.cell (.v 3) 0, .cell (.v 3) 1]] <|
  .ite (.v 14) (.leaf 2) <|
  .op .len [.v 7] <|
  .op (.bin .gtr) [.v 15, .c (.int .i64 (24))] <|
  .leaf 3) [([.c (.bool true)], 0), ([.c (.bool true)], 0), ([.c (.bool true)], 0), ([.v 16], 0)] [.ite (.v 10) (.leaf 1) <|
  .call 28 [.node [.cell (.v 3) 0, .cell (.v 3) 1], .v 4, .v 5, .node [.cell (.v 6) 0, .cell (.v 6) 1], .v 7] <|
  .op (.bin .neq) [.cell (.v 11) 2, .c (.int .i64 (0))] <|
  .ite (.v 12) (.blk (
    .ite (.v 8) (.op .len [.cell (.v 11) 0] <|
     .op (.bin .eql) [.v 13, .c (.int .i64 (0))] <|
     .leaf 0) <|
    .leaf 1) [([.v 14], 0), ([.c (.bool false)], 0)] [.leaf 2]) <|
  .op .len [.cell (.v 11) 0] <|
  .op .len [.v 7] <|
  .op (.bin .neq) [.v 13, .v 14] <|
  .ite (.v 15) (.leaf 3) <|
  .op .len [.cell (.v 11) 0] <|
  .loop [.c (.int .i64 (0)), .cell (.v 1) 0, .cell (.v 1) 1, .cell (.v 1) 2, .cell (.v 1) 3, .cell (.v 1) 4, .cell (.v 1) 5, .cell (.v 1) 6] (
   .op (.bin .lss) [.v 17, .v 16] <|
   .ite (.v 25) (.blk (
     .op (.idx 6) [.cell (.v 11) 0, .v 17] <|
     .op (.elem 0 (some 6)) [.cell (.v 11) 0, .v 17] <|
     .call 17 [.node [.cell (.v 3) 0, .cell (.v 3) 1], .cell (.v 27) 0, .node [.cell (.v 6) 0, .cell (.v 6) 1]] <|
     .call 41 [.node [.cell (.v 0) 0, .cell (.v 0) 1, .cell (.v 0) 2, .cell (.v 0) 3, .cell (.v 0) 4, .cell (.v 0) 5, .cell (.v 0) 6, .cell (.v 0) 7, .cell (.v 0) 8, .cell (.v 0) 9, .cell (.v 0) 10, .cell (.v 0) 11, .cell (.v 0) 12, .cell (.v 0) 13, .cell (.v 0) 14, .cell (.v 0) 15, .cell (.v 0) 16], .node [.v 18, .v 19, .v 20, .v 21, .v 22, .v 23, .v 24], .node [.cell (.v 2) 0, .cell (.v 2) 1, .cell (.v 2) 2, .cell (.v 2) 3, .cell (.v 2) 4, .cell (.v 2) 5, .cell (.v 2) 6, .cell (.v 2) 7]] <|
     .blk (
      .op (.bin .neq) [.cell (.v 28) 1, .c (.int .i64 (0))] <|
      .ite (.v 30) (.leaf 0) <|
      .op (.bin .neq) [.cell (.v 29) 1, .c (.int .i64 (0))] <|
      .ite (.v 31) (.leaf 1) <|
      .op (.bin .sub) [.cell (.v 27) 5, .cell (.v 27) 3] <|
      .op (.bin .neq) [.v 32, .cell (.cell (.v 28) 0) 1] <|
      .ite (.v 33) (.leaf 2) <|
      .op (.bin .sub) [.cell (.v 27) 4, .cell (.v 27) 2] <|
      .op (.bin .neq) [.v 34, .cell (.cell (.v 28) 0) 0] <|
      .leaf 3) [([.c (.bool true)], 0), ([.c (.bool true)], 0), ([.c (.bool true)], 0), ([.v 35], 0)] [.ite (.v 30) (.leaf 0) <|
      .blk (
       .op (.bin .lss) [.cell (.cell (.v 28) 0) 0, .c (.int .i64 (1))] <|
       .ite (.v 31) (.leaf 0) <|
       .op (.bin .gtr) [.cell (.cell (.v 28) 0) 0, .cell (.cell (.v 28) 0) 1] <|
       .leaf 1) [([.c (.bool true)], 0), ([.v 32], 0)] [.ite (.v 31) (.leaf 1) <|
       .op (.bin .gtr) [.cell (.cell (.v 28) 0) 1, .cell (.cell (.v 29) 0) 0] <|
       .ite (.v 32) (.leaf 2) <|
       .loop [.c (.int .i64 (0)), .c (.list [])] (
        .op (.bin .lss) [.v 33, .cell (.cell (.v 28) 0) 1] <|
        .ite (.v 35) (.op (.listOf 8 1 [.int .i64 (0), .int .i64 (0), .int .i64 (0), .int .i64 (0), .int .i64 (0), .int .i64 (0), .int .i64 (0), .int .i64 (0)] [0]) [.cell (.v 2) 0, .cell (.v 2) 1, .cell (.v 2) 2, .cell (.v 2) 3, .cell (.v 2) 4, .cell (.v 2) 5, .cell (.v 2) 6, .cell (.v 2) 7] <|
         .op (.app 8 64) [.v 34, .v 36] <|
         .op (.bin .add) [.v 33, .c (.int .i64 (1))] <|
         .leaf 0) <|
        .leaf 1) [([.v 38, .v 37], none), ([.v 34], some 0)] [.call 42 [.node [.cell (.v 0) 0, .cell (.v 0) 1, .cell (.v 0) 2, .cell (.v 0) 3, .cell (.v 0) 4, .cell (.v 0) 5, .cell (.v 0) 6, .cell (.v 0) 7, .cell (.v 0) 8, .cell (.v 0) 9, .cell (.v 0) 10, .cell (.v 0) 11, .cell (.v 0) 12, .cell (.v 0) 13, .cell (.v 0) 14, .cell (.v 0) 15, .cell (.v 0) 16], .node [.v 18, .v 19, .v 20, .v 21, .v 22, .v 23, .v 24], .v 33] <|
        .flat (.cell (.v 34) 1) <|
        .flat (.cell (.v 34) 2) <|
        .flat (.cell (.v 34) 3) <|
        .shal 1 (.cell (.v 34) 0) <|
        .blk (
         .op (.bin .neq) [.cell (.v 34) 3, .c (.int .i64 (0))] <|
         .ite (.v 35) (.leaf 0) <|
         .op (.bin .neq) [.cell (.v 34) 1, .c (.int .u8 (0))] <|
         .ite (.v 36) (.leaf 1) <|
         .op .len [.cell (.v 34) 0] <|
         .op (.bin .neq) [.v 37, .cell (.cell (.v 28) 0) 1] <|
         .leaf 2) [([.c (.bool true)], 0), ([.c (.bool true)], 0), ([.v 38], 0)] [.ite (.v 35) (.leaf 3) <|
         .op (.bin .sub) [.cell (.cell (.v 28) 0) 1, .c (.int .i64 (1))] <|
         .op (.idx 7) [.cell (.v 34) 0, .v 36] <|
         .op (.elem 0 (some 7)) [.cell (.v 34) 0, .v 36] <|
         .call 43 [.cell (.v 0) 0, .cell (.v 0) 0] <|
         .leaf 4]]]]) [([.c (.bool false)], 0), ([.c (.bool false)], 0), ([.v 8], 0), ([.c (.bool false)], 0), ([.cell (.v 39) 0, .cell (.v 39) 1, .cell (.v 38) 2, .cell (.v 38) 3, .cell (.v 38) 4, .cell (.v 38) 5, .cell (.v 38) 6], 1)] [.leaf 0,
     .op (.bin .add) [.v 17, .c (.int .i64 (1))] <|
     .leaf 1]) <|
   .leaf 2) [([.v 26], some 0), ([.v 33, .v 26, .v 27, .v 28, .v 29, .v 30, .v 31, .v 32], none), ([], some 1)] [.leaf 4,
   .leaf 5]],
 [.c (.bool false), .v 8, .v 13, .c (.bool false), .v 17, .v 8], .e⟩
def F15 : Fn := ⟨[(some 2)],
 .blk (
  .op .len [.cell (.v 0) 0] <|
  .op (.bin .gtr) [.v 1, .c (.int .i64 (20))] <|
  .ite (.v 2) (.leaf 0) <|
  .op .len [.cell (.v 0) 1] <|
  .op (.bin .gtr) [.v 3, .c (.int .i64 (40))] <|
  .leaf 1) [([.c (.bool true)], 0), ([.v 4], 0)] [.ite (.v 1) (.leaf 0) <|
  .loop [.c (.int .i64 (0))] (
   .op .len [.cell (.v 0) 1] <|
   .op (.bin .lss) [.v 2, .v 3] <|
   .ite (.v 4) (.op (.idx 5) [.cell (.v 0) 1, .v 2] <|
    .op (.elem 4 none) [.cell (.v 0) 1, .v 2] <|
    .op .len [.v 6] <|
    .op (.bin .gtr) [.v 7, .c (.int .i64 (20))] <|
    .ite (.v 8) (.leaf 0) <|
    .op (.bin .add) [.v 2, .c (.int .i64 (1))] <|
    .leaf 1) <|
   .leaf 2) [([], some 0), ([.v 9], none), ([], some 1)] [.leaf 1,
   .leaf 2]],
 [.c (.bool true), .c (.bool true), .c (.bool false)], .e⟩
def F17 : Fn := ⟨[(some 2), none, (some 2)],
 .call 65 [.node [.cell (.v 0) 0, .cell (.v 0) 1], .node [.cell (.v 2) 0, .cell (.v 2) 1]] <|
 .op (.bin .neq) [.cell (.v 3) 1, .c (.int .i64 (0))] <|
 .ite (.v 4) (.leaf 0) <|
 .call 66 [.v 1, .cell (.v 0) 1] <|
 .op (.un .not) [.v 5] <|
 .ite (.v 6) (.leaf 1) <|
 .call 67 [.node [.cell (.cell (.v 3) 0) 0, .cell (.cell (.v 3) 0) 1, .cell (.cell (.v 3) 0) 2, .cell (.cell (.v 3) 0) 3, .cell (.cell (.v 3) 0) 4, .cell (.cell (.v 3) 0) 5, .cell (.cell (.v 3) 0) 6], .v 1] <|
 .call 68 [.node [.cell (.v 7) 0, .cell (.v 7) 1]] <|
 .leaf 2,
 [.node [.node [.c (.int .i64 (0)), .c (.int .i64 (0))], .cell (.v 3) 1], .node [.node [.c (.int .i64 (0)), .c (.int .i64 (0))], .c (.int .i64 (2))], .node [.node [.cell (.v 8) 0, .cell (.v 8) 1], .c (.int .i64 (0))]], .tup [.node [.e, .e], .e]⟩
def F21 : Fn := ⟨[(some 2)],
 .call 77 [.node [.cell (.v 0) 0, .cell (.v 0) 1]] <|
 .op (.un .not) [.v 1] <|
 .ite (.v 2) (.leaf 0) <|
 .leaf 1,
 [.c (.int .i64 (30)), .c (.int .i64 (0))], .e⟩
def F28 : Fn := ⟨[(some 2), none, none, (some 2), none],
 .call 89 [.node [.cell (.v 0) 0, .cell (.v 0) 1], .v 1, .v 2, .node [.cell (.v 3) 0, .cell (.v 3) 1]] <|
 .op (.bin .neq) [.cell (.v 5) 1, .c (.int .i64 (0))] <|
 .ite (.v 6) (.leaf 0) <|
 .op .len [.v 4] <|
 .op (.bin .gtr) [.v 7, .c (.int .i64 (24))] <|
 .ite (.v 8) (.leaf 1) <|
 .call 90 [.node [.cell (.cell (.v 5) 0) 0, .cell (.cell (.v 5) 0) 1, .cell (.cell (.v 5) 0) 2, .cell (.cell (.v 5) 0) 3, .cell (.cell (.v 5) 0) 4, .cell (.cell (.v 5) 0) 5, .cell (.cell (.v 5) 0) 6], .v 4] <|
 .ite (.cell (.v 9) 1) (.leaf 2) <|
 .op .len [.v 4] <|
 .loop [.c (.int .i64 (0)), .c (.list []), .cell (.cell (.v 5) 0) 0, .cell (.cell (.v 5) 0) 1, .cell (.cell (.v 5) 0) 2, .cell (.cell (.v 5) 0) 3, .cell (.cell (.v 5) 0) 4, .cell (.cell (.v 5) 0) 5, .cell (.cell (.v 5) 0) 6] (
  .op (.bin .lss) [.v 11, .v 10] <|
  .ite (.v 20) (.op (.idx 1) [.v 4, .v 11] <|
   .op (.elem 0 none) [.v 4, .v 11] <|
   .call 91 [.node [.v 13, .v 14, .v 15, .v 16, .v 17, .v 18, .v 19], .v 22] <|
   .op (.un .not) [.cell (.v 23) 1] <|
   .ite (.v 24) (.leaf 0) <|
   .call 92 [.v 12, .node [.cell (.cell (.v 23) 0) 0, .cell (.cell (.v 23) 0) 1, .cell (.cell (.v 23) 0) 2, .cell (.cell (.v 23) 0) 3, .cell (.cell (.v 23) 0) 4, .cell (.cell (.v 23) 0) 5]] <|
   .shal 1 (.v 25) <|
   .call 93 [.node [.v 13, .v 14, .v 15, .v 16, .v 17, .v 18, .v 19], .node [.cell (.cell (.v 23) 0) 0, .cell (.cell (.v 23) 0) 1, .cell (.cell (.v 23) 0) 2, .cell (.cell (.v 23) 0) 3, .cell (.cell (.v 23) 0) 4, .cell (.cell (.v 23) 0) 5]] <|
   .op (.bin .add) [.v 11, .c (.int .i64 (1))] <|
   .leaf 1) <|
  .leaf 2) [([.v 11], some 0), ([.v 27, .v 25, .cell (.v 26) 0, .cell (.v 26) 1, .cell (.v 26) 2, .cell (.v 26) 3, .cell (.v 26) 4, .cell (.v 26) 5, .cell (.v 26) 6], none), ([.v 12], some 1)] [.leaf 3,
  .leaf 4],
 [.node [.c (.list []), .c (.int .i64 (0)), .cell (.v 5) 1], .node [.c (.list []), .c (.int .i64 (0)), .c (.int .i64 (4))], .node [.c (.list []), .cell (.v 9) 0, .c (.int .i64 (8))], .node [.c (.list []), .v 11, .c (.int .i64 (34))], .node [.v 11, .c (.int .i64 (0)), .c (.int .i64 (0))]], .tup [.own 6, .e, .e]⟩
def F38 : Fn := ⟨[],
 .leaf 0,
 [.c (.bool true)], .e⟩
def F39 : Fn := ⟨[(some 17), (some 7)],
 .call 101 [.node [.cell (.v 0) 0, .cell (.v 0) 1, .cell (.v 0) 2, .cell (.v 0) 3, .cell (.v 0) 4, .cell (.v 0) 5, .cell (.v 0) 6, .cell (.v 0) 7, .cell (.v 0) 8, .cell (.v 0) 9, .cell (.v 0) 10, .cell (.v 0) 11, .cell (.v 0) 12, .cell (.v 0) 13, .cell (.v 0) 14, .cell (.v 0) 15, .cell (.v 0) 16]] <|
 .op (.un .not) [.v 2] <|
 .ite (.v 3) (.leaf 0) <|
 .call 102 [.node [.cell (.v 0) 0, .cell (.v 0) 1, .cell (.v 0) 2, .cell (.v 0) 3, .cell (.v 0) 4, .cell (.v 0) 5, .cell (.v 0) 6, .cell (.v 0) 7, .cell (.v 0) 8, .cell (.v 0) 9, .cell (.v 0) 10, .cell (.v 0) 11, .cell (.v 0) 12, .cell (.v 0) 13, .cell (.v 0) 14, .cell (.v 0) 15, .cell (.v 0) 16], .node [.cell (.v 1) 0, .cell (.v 1) 1, .cell (.v 1) 2, .cell (.v 1) 3, .cell (.v 1) 4, .cell (.v 1) 5, .cell (.v 1) 6]] <|
 .op (.un .not) [.v 4] <|
 .ite (.v 5) (.leaf 1) <|
 .leaf 2,
 [.c (.int .i64 (10)), .c (.int .i64 (11)), .c (.int .i64 (0))], .e⟩
def F40 : Fn := ⟨[(some 8)],
 .blk (
  .call 103 [.cell (.v 0) 0, .c (.int .i64 (0)), .c (.int .i64 (24))] <|
  .ite (.v 1) (.call 103 [.cell (.v 0) 1, .c (.int .i64 (0)), .c (.int .i64 (1000000))] <|
   .ite (.v 2) (.call 104 [.node [.cell (.v 0) 2, .cell (.v 0) 3], .c (.int .i64 (0)), .c (.int .i64 (60))] <|
    .ite (.v 3) (.call 104 [.node [.cell (.v 0) 4, .cell (.v 0) 5], .c (.int .i64 (0)), .c (.int .i64 (1000000))] <|
     .ite (.v 4) (.call 104 [.node [.cell (.v 0) 6, .cell (.v 0) 7], .c (.int .i64 (0)), .c (.int .i64 (1000000))] <|
      .leaf 0) <|
     .leaf 1) <|
    .leaf 2) <|
   .leaf 3) <|
  .leaf 4) [([.v 5], 0), ([.c (.bool false)], 0), ([.c (.bool false)], 0), ([.c (.bool false)], 0), ([.c (.bool false)], 0)] [.leaf 0],
 [.v 1], .e⟩
def F41 : Fn := ⟨[(some 17), (some 7), (some 8)],
 .op (.listOf 8 1 [.int .i64 (0), .int .i64 (0), .int .i64 (0), .int .i64 (0), .int .i64 (0), .int .i64 (0), .int .i64 (0), .int .i64 (0)] [0]) [.cell (.v 2) 0, .cell (.v 2) 1, .cell (.v 2) 2, .cell (.v 2) 3, .cell (.v 2) 4, .cell (.v 2) 5, .cell (.v 2) 6, .cell (.v 2) 7] <|
 .call 105 [.node [.cell (.v 0) 0, .cell (.v 0) 1, .cell (.v 0) 2, .cell (.v 0) 3, .cell (.v 0) 4, .cell (.v 0) 5, .cell (.v 0) 6, .cell (.v 0) 7, .cell (.v 0) 8, .cell (.v 0) 9, .cell (.v 0) 10, .cell (.v 0) 11, .cell (.v 0) 12, .cell (.v 0) 13, .cell (.v 0) 14, .cell (.v 0) 15, .cell (.v 0) 16], .node [.cell (.v 1) 0, .cell (.v 1) 1, .cell (.v 1) 2, .cell (.v 1) 3, .cell (.v 1) 4, .cell (.v 1) 5, .cell (.v 1) 6], .v 3] <|
 .flat (.v 4) <|
 .op (.bin .neq) [.v 4, .c (.int .i64 (0))] <|
 .ite (.v 5) (.leaf 0) <|
 .call 106 [.c (.int .i64 (60))] <|
 .call 107 [.node [.cell (.v 0) 0, .cell (.v 0) 1, .cell (.v 0) 2, .cell (.v 0) 3, .cell (.v 0) 4, .cell (.v 0) 5, .cell (.v 0) 6, .cell (.v 0) 7, .cell (.v 0) 8, .cell (.v 0) 9, .cell (.v 0) 10, .cell (.v 0) 11, .cell (.v 0) 12, .cell (.v 0) 13, .cell (.v 0) 14, .cell (.v 0) 15, .cell (.v 0) 16], .node [.cell (.v 1) 0, .cell (.v 1) 1, .cell (.v 1) 2, .cell (.v 1) 3, .cell (.v 1) 4, .cell (.v 1) 5, .cell (.v 1) 6]] <|
 .op (.listOf 8 1 [.int .i64 (0), .int .i64 (0), .int .i64 (0), .int .i64 (0), .int .i64 (0), .int .i64 (0), .int .i64 (0), .int .i64 (0)] [0]) [.cell (.v 2) 0, .cell (.v 2) 1, .cell (.v 2) 2, .cell (.v 2) 3, .cell (.v 2) 4, .cell (.v 2) 5, .cell (.v 2) 6, .cell (.v 2) 7] <|
 .call 109 [.v 8, .c (.int .i64 (60))] <|
 .shal 1 (.v 9) <|
 .blk (
  .op .len [.v 9] <|
  .loop [.c (.int .i64 (0)), .cell (.v 7) 0, .cell (.v 7) 1, .cell (.v 7) 2, .cell (.v 7) 3, .cell (.v 7) 4, .cell (.v 7) 5, .cell (.v 7) 6, .cell (.v 7) 7, .cell (.v 7) 8, .cell (.v 7) 9, .cell (.v 7) 10, .cell (.v 7) 11, .cell (.v 7) 12, .cell (.v 7) 13, .cell (.v 7) 14, .cell (.v 7) 15, .cell (.v 7) 16, .cell (.v 7) 17, .cell (.v 7) 18, .cell (.v 7) 19, .cell (.v 7) 20, .cell (.v 7) 21, .cell (.v 7) 22, .cell (.v 7) 23, .cell (.v 6) 0, .cell (.v 6) 1] (
   .op (.bin .lss) [.v 11, .v 10] <|
   .ite (.v 38) (.op (.idx 8) [.v 9, .v 11] <|
    .op (.elem 0 (some 8)) [.v 9, .v 11] <|
    .call 127 [.node [.v 12, .v 13, .v 14, .v 15, .v 16, .v 17, .v 18, .v 19, .v 20, .v 21, .v 22, .v 23, .v 24, .v 25, .v 26, .v 27, .v 28, .v 29, .v 30, .v 31, .v 32, .v 33, .v 34, .v 35], .node [.cell (.v 40) 0, .cell (.v 40) 1, .cell (.v 40) 2, .cell (.v 40) 3, .cell (.v 40) 4, .cell (.v 40) 5, .cell (.v 40) 6, .cell (.v 40) 7]] <|
    .op (.bin .neq) [.cell (.v 41) 1, .c (.int .u8 (0))] <|
    .blk (
     .ite (.v 42) (.op (.mx false) [.v 36, .v 11] <|
      .leaf 0) <|
     .leaf 1) [([.v 43], 0), ([.v 36], 0)] [.op (.bin .eql) [.cell (.v 41) 1, .c (.int .u8 (2))] <|
     .blk (
      .ite (.v 44) (.leaf 0) <|
      .leaf 1) [([.v 11], 0), ([.v 37], 0)] [.op (.bin .eql) [.cell (.v 41) 1, .c (.int .u8 (2))] <|
      .ite (.v 46) (.leaf 0) <|
      .op (.bin .add) [.v 11, .c (.int .i64 (1))] <|
      .leaf 1]]) <|
   .leaf 2) [([.v 43, .v 45], some 0), ([.v 47, .cell (.cell (.v 41) 0) 0, .cell (.cell (.v 41) 0) 1, .cell (.cell (.v 41) 0) 2, .cell (.cell (.v 41) 0) 3, .cell (.cell (.v 41) 0) 4, .cell (.cell (.v 41) 0) 5, .cell (.cell (.v 41) 0) 6, .cell (.cell (.v 41) 0) 7, .cell (.cell (.v 41) 0) 8, .cell (.cell (.v 41) 0) 9, .cell (.cell (.v 41) 0) 10, .cell (.cell (.v 41) 0) 11, .cell (.cell (.v 41) 0) 12, .cell (.cell (.v 41) 0) 13, .cell (.cell (.v 41) 0) 14, .cell (.cell (.v 41) 0) 15, .cell (.cell (.v 41) 0) 16, .cell (.cell (.v 41) 0) 17, .cell (.cell (.v 41) 0) 18, .cell (.cell (.v 41) 0) 19, .cell (.cell (.v 41) 0) 20, .cell (.cell (.v 41) 0) 21, .cell (.cell (.v 41) 0) 22, .cell (.cell (.v 41) 0) 23, .v 43, .v 45], none), ([.v 36, .v 37], some 1)] [.leaf 0,
   .leaf 1]) [([.v 11, .v 12], 0), ([.v 11, .v 12], 0)] [.leaf 1],
 [.node [.node [.c (.int .i64 (0)), .c (.int .i64 (0))], .v 4], .node [.node [.v 10, .v 11], .c (.int .i64 (0))]], .tup [.node [.e, .e], .e]⟩
def F42 : Fn := ⟨[(some 17), (some 7), none],
 .call 105 [.node [.cell (.v 0) 0, .cell (.v 0) 1, .cell (.v 0) 2, .cell (.v 0) 3, .cell (.v 0) 4, .cell (.v 0) 5, .cell (.v 0) 6, .cell (.v 0) 7, .cell (.v 0) 8, .cell (.v 0) 9, .cell (.v 0) 10, .cell (.v 0) 11, .cell (.v 0) 12, .cell (.v 0) 13, .cell (.v 0) 14, .cell (.v 0) 15, .cell (.v 0) 16], .node [.cell (.v 1) 0, .cell (.v 1) 1, .cell (.v 1) 2, .cell (.v 1) 3, .cell (.v 1) 4, .cell (.v 1) 5, .cell (.v 1) 6], .v 2] <|
 .op (.bin .neq) [.v 3, .c (.int .i64 (0))] <|
 .ite (.v 4) (.leaf 0) <|
 .call 107 [.node [.cell (.v 0) 0, .cell (.v 0) 1, .cell (.v 0) 2, .cell (.v 0) 3, .cell (.v 0) 4, .cell (.v 0) 5, .cell (.v 0) 6, .cell (.v 0) 7, .cell (.v 0) 8, .cell (.v 0) 9, .cell (.v 0) 10, .cell (.v 0) 11, .cell (.v 0) 12, .cell (.v 0) 13, .cell (.v 0) 14, .cell (.v 0) 15, .cell (.v 0) 16], .node [.cell (.v 1) 0, .cell (.v 1) 1, .cell (.v 1) 2, .cell (.v 1) 3, .cell (.v 1) 4, .cell (.v 1) 5, .cell (.v 1) 6]] <|
 .blk (
  .op .len [.v 2] <|
  .loop [.c (.int .i64 (0)), .cell (.v 5) 0, .cell (.v 5) 1, .cell (.v 5) 2, .cell (.v 5) 3, .cell (.v 5) 4, .cell (.v 5) 5, .cell (.v 5) 6, .cell (.v 5) 7, .cell (.v 5) 8, .cell (.v 5) 9, .cell (.v 5) 10, .cell (.v 5) 11, .cell (.v 5) 12, .cell (.v 5) 13, .cell (.v 5) 14, .cell (.v 5) 15, .cell (.v 5) 16, .cell (.v 5) 17, .cell (.v 5) 18, .cell (.v 5) 19, .cell (.v 5) 20, .cell (.v 5) 21, .cell (.v 5) 22, .cell (.v 5) 23, .c (.int .u8 (0)), .c (.list [])] (
   .op (.bin .lss) [.v 7, .v 6] <|
   .ite (.v 34) (.op (.idx 8) [.v 2, .v 7] <|
    .op (.elem 0 (some 8)) [.v 2, .v 7] <|
    .call 127 [.node [.v 8, .v 9, .v 10, .v 11, .v 12, .v 13, .v 14, .v 15, .v 16, .v 17, .v 18, .v 19, .v 20, .v 21, .v 22, .v 23, .v 24, .v 25, .v 26, .v 27, .v 28, .v 29, .v 30, .v 31], .node [.cell (.v 36) 0, .cell (.v 36) 1, .cell (.v 36) 2, .cell (.v 36) 3, .cell (.v 36) 4, .cell (.v 36) 5, .cell (.v 36) 6, .cell (.v 36) 7]] <|
    .op (.bin .eql) [.cell (.v 37) 1, .c (.int .u8 (2))] <|
    .ite (.v 38) (.leaf 0) <|
    .op (.mx true) [.v 32, .cell (.v 37) 1] <|
    .call 110 [.node [.cell (.cell (.v 37) 0) 0, .cell (.cell (.v 37) 0) 1, .cell (.cell (.v 37) 0) 2, .cell (.cell (.v 37) 0) 3, .cell (.cell (.v 37) 0) 4, .cell (.cell (.v 37) 0) 5, .cell (.cell (.v 37) 0) 6, .cell (.cell (.v 37) 0) 7, .cell (.cell (.v 37) 0) 8, .cell (.cell (.v 37) 0) 9, .cell (.cell (.v 37) 0) 10, .cell (.cell (.v 37) 0) 11, .cell (.cell (.v 37) 0) 12, .cell (.cell (.v 37) 0) 13, .cell (.cell (.v 37) 0) 14, .cell (.cell (.v 37) 0) 15, .cell (.cell (.v 37) 0) 16, .cell (.cell (.v 37) 0) 17, .cell (.cell (.v 37) 0) 18, .cell (.cell (.v 37) 0) 19, .cell (.cell (.v 37) 0) 20, .cell (.cell (.v 37) 0) 21, .cell (.cell (.v 37) 0) 22, .cell (.cell (.v 37) 0) 23]] <|
    .op (.listOf 7 1 [.int .i64 (0), .int .i64 (0), .int .i64 (0), .int .i64 (0), .int .i64 (0), .int .i64 (0), .bool false] [0]) [.cell (.v 40) 0, .cell (.v 40) 1, .cell (.v 40) 2, .cell (.v 40) 3, .cell (.v 40) 4, .cell (.v 40) 5, .cell (.v 40) 6] <|
    .op (.app 7 56) [.v 33, .v 41] <|
    .op (.bin .eql) [.cell (.v 37) 1, .c (.int .u8 (2))] <|
    .ite (.v 43) (.leaf 1) <|
    .op (.bin .add) [.v 7, .c (.int .i64 (1))] <|
    .leaf 2) <|
   .leaf 3) [([.v 7], some 0), ([.v 39, .v 42], some 1), ([.v 44, .cell (.cell (.v 37) 0) 0, .cell (.cell (.v 37) 0) 1, .cell (.cell (.v 37) 0) 2, .cell (.cell (.v 37) 0) 3, .cell (.cell (.v 37) 0) 4, .cell (.cell (.v 37) 0) 5, .cell (.cell (.v 37) 0) 6, .cell (.cell (.v 37) 0) 7, .cell (.cell (.v 37) 0) 8, .cell (.cell (.v 37) 0) 9, .cell (.cell (.v 37) 0) 10, .cell (.cell (.v 37) 0) 11, .cell (.cell (.v 37) 0) 12, .cell (.cell (.v 37) 0) 13, .cell (.cell (.v 37) 0) 14, .cell (.cell (.v 37) 0) 15, .cell (.cell (.v 37) 0) 16, .cell (.cell (.v 37) 0) 17, .cell (.cell (.v 37) 0) 18, .cell (.cell (.v 37) 0) 19, .cell (.cell (.v 37) 0) 20, .cell (.cell (.v 37) 0) 21, .cell (.cell (.v 37) 0) 22, .cell (.cell (.v 37) 0) 23, .v 39, .v 42], none), ([.v 32, .v 33], some 2)] [.leaf 0,
   .leaf 1,
   .leaf 2]) [([.v 7], 0), ([.v 7, .v 8], 1), ([.v 7, .v 8], 1)] [.leaf 1,
  .leaf 2],
 [.node [.c (.list []), .c (.int .u8 (0)), .c (.int .i64 (0)), .v 3], .node [.c (.list []), .c (.int .u8 (2)), .v 6, .c (.int .i64 (13))], .node [.v 7, .v 6, .c (.int .i64 (0)), .c (.int .i64 (0))]], .tup [.own 7, .e, .e, .e]⟩
def F43 : Fn := ⟨[none, none],
 .leaf 0,
 [.node [.v 0, .v 1]], .node [.e, .e]⟩
def F65 : Fn := ⟨[(some 2), (some 2)],
 .call 21 [.node [.cell (.v 0) 0, .cell (.v 0) 1]] <|
 .op (.bin .neq) [.v 2, .c (.int .i64 (0))] <|
 .ite (.v 3) (.leaf 0) <|
 .call 115 [.node [.cell (.v 1) 0, .cell (.v 1) 1], .c (.int .i64 (1)), .c (.int .i64 (100000))] <|
 .op (.un .not) [.v 4] <|
 .ite (.v 5) (.leaf 1) <|
 .leaf 2,
 [.node [.node [.c (.list []), .c (.list []), .c (.int .i64 (0)), .c (.int .i64 (0)), .c (.int .i64 (0)), .c (.int .i64 (0)), .c (.int .i64 (0))], .v 2], .node [.node [.c (.list []), .c (.list []), .c (.int .i64 (0)), .c (.int .i64 (0)), .c (.int .i64 (0)), .c (.int .i64 (0)), .c (.int .i64 (0))], .c (.int .i64 (31))], .node [.node [.cell (.v 0) 0, .cell (.v 0) 1, .cell (.v 1) 0, .cell (.v 1) 1, .c (.int .i64 (0)), .c (.int .i64 (0)), .c (.int .i64 (0))], .c (.int .i64 (0))]], .tup [.node [.e, .e, .e, .e, .e, .e, .e], .e]⟩
def F66 : Fn := ⟨[none, none],
 .op .len [.v 1] <|
 .op (.bin .sub) [.v 2, .c (.int .i64 (1))] <|
 .call 97 [.v 0, .c (.int .i64 (0)), .v 3] <|
 .leaf 0,
 [.v 4], .e⟩
def F67 : Fn := ⟨[(some 7), none],
 .op (.idx 5) [.cell (.v 0) 1, .v 1] <|
 .op (.elem 2 (some 2)) [.cell (.v 0) 1, .v 1] <|
 .call 98 [.cell (.v 3) 0, .cell (.v 0) 3] <|
 .call 98 [.cell (.v 3) 1, .cell (.v 0) 2] <|
 .leaf 0,
 [.node [.v 4, .v 5]], .node [.e, .e]⟩
def F68 : Fn := ⟨[(some 2)],
 .leaf 0,
 [.node [.cell (.v 0) 0, .cell (.v 0) 1]], .node [.e, .e]⟩
def F72 : Fn := ⟨[none],
 .call 97 [.v 0, .c (.int .i64 (0)), .c (.int .i64 (100000))] <|
 .leaf 0,
 [.v 1], .e⟩
def F73 : Fn := ⟨[(some 7), none, (some 2)],
 .call 67 [.node [.cell (.v 0) 0, .cell (.v 0) 1, .cell (.v 0) 2, .cell (.v 0) 3, .cell (.v 0) 4, .cell (.v 0) 5, .cell (.v 0) 6], .v 1] <|
 .call 74 [.c (.int .i64 (100001))] <|
 .op (.idx 5) [.cell (.v 0) 1, .v 1] <|
 .op (.elem 4 none) [.cell (.v 0) 1, .v 1] <|
 .op .len [.v 6] <|
 .loop [.c (.int .i64 (0)), .cell (.v 4) 0, .cell (.v 4) 1] (
  .op (.bin .lss) [.v 8, .v 7] <|
  .ite (.v 11) (.op (.idx 4) [.v 6, .v 8] <|
   .op (.elem 0 (some 4)) [.v 6, .v 8] <|
   .op (.mx true) [.cell (.v 2) 0, .cell (.v 13) 0] <|
   .op (.bin .add) [.v 14, .cell (.v 3) 0] <|
   .op (.bin .sub) [.v 15, .c (.int .i64 (1))] <|
   .op (.bin .leq) [.v 16, .cell (.v 13) 3] <|
   .blk (
    .ite (.v 17) (.op (.listOf 1 2 [.int .i64 (0)] [0, 1]) [.v 9, .v 14] <|
     .call 116 [.v 18] <|
     .flat (.v 19) <|
     .leaf 0) <|
    .leaf 1) [([.v 19], 0), ([.v 9], 0)] [.op (.mx true) [.cell (.v 2) 1, .cell (.v 13) 1] <|
    .op (.bin .add) [.v 19, .cell (.v 3) 1] <|
    .op (.bin .sub) [.v 20, .c (.int .i64 (1))] <|
    .op (.bin .leq) [.v 21, .cell (.v 13) 2] <|
    .blk (
     .ite (.v 22) (.op (.listOf 1 2 [.int .i64 (0)] [0, 1]) [.v 10, .v 19] <|
      .call 116 [.v 23] <|
      .flat (.v 24) <|
      .leaf 0) <|
     .leaf 1) [([.v 24], 0), ([.v 10], 0)] [.op (.bin .add) [.v 8, .c (.int .i64 (1))] <|
     .leaf 0]]) <|
  .leaf 1) [([.v 24, .v 18, .v 23], none), ([.v 9, .v 10], some 0)] [.leaf 0],
 [.node [.v 8, .v 9]], .node [.e, .e]⟩
def F74 : Fn := ⟨[none],
 .leaf 0,
 [.node [.v 0, .v 0]], .node [.e, .e]⟩
def F77 : Fn := ⟨[(some 2)],
 .blk (
  .op .len [.cell (.v 0) 0] <|
  .call 97 [.v 1, .c (.int .i64 (1)), .c (.int .i64 (12))] <|
  .op (.un .not) [.v 2] <|
  .ite (.v 3) (.leaf 0) <|
  .op .len [.cell (.v 0) 1] <|
  .op (.bin .gtr) [.v 4, .c (.int .i64 (24))] <|
  .leaf 1) [([.c (.bool true)], 0), ([.v 5], 0)] [.ite (.v 1) (.leaf 0) <|
  .op .len [.cell (.v 0) 0] <|
  .loop [.c (.int .i64 (0))] (
   .op (.bin .lss) [.v 3, .v 2] <|
   .ite (.v 4) (.op (.idx 9) [.cell (.v 0) 0, .v 3] <|
    .op (.elem 0 (some 9)) [.cell (.v 0) 0, .v 3] <|
    .call 117 [.node [.cell (.v 6) 0, .cell (.v 6) 1, .cell (.v 6) 2, .cell (.v 6) 3, .cell (.v 6) 4, .cell (.v 6) 5, .cell (.v 6) 6, .cell (.v 6) 7, .cell (.v 6) 8]] <|
    .op (.un .not) [.v 7] <|
    .ite (.v 8) (.leaf 0) <|
    .op (.bin .add) [.v 3, .c (.int .i64 (1))] <|
    .leaf 1) <|
   .leaf 2) [([], some 0), ([.v 9], none), ([], some 1)] [.leaf 1,
   .op .len [.cell (.v 0) 1] <|
   .loop [.c (.int .i64 (0))] (
    .op (.bin .lss) [.v 4, .v 3] <|
    .ite (.v 5) (.op (.idx 5) [.cell (.v 0) 1, .v 4] <|
     .op (.elem 0 (some 5)) [.cell (.v 0) 1, .v 4] <|
     .blk (
      .call 94 [.cell (.v 7) 0, .cell (.v 0) 0] <|
      .op (.un .not) [.v 8] <|
      .ite (.v 9) (.leaf 0) <|
      .call 94 [.cell (.v 7) 1, .cell (.v 0) 0] <|
      .op (.un .not) [.v 10] <|
      .ite (.v 11) (.leaf 1) <|
      .call 118 [.node [.cell (.v 7) 0, .cell (.v 7) 1, .cell (.v 7) 2, .cell (.v 7) 3, .cell (.v 7) 4]] <|
      .op (.un .not) [.v 12] <|
      .leaf 2) [([.c (.bool true)], 0), ([.c (.bool true)], 0), ([.v 13], 0)] [.ite (.v 8) (.leaf 0) <|
      .op (.bin .add) [.v 4, .c (.int .i64 (1))] <|
      .leaf 1]) <|
    .leaf 2) [([], some 0), ([.v 9], none), ([], some 1)] [.leaf 2,
    .leaf 3]]],
 [.c (.bool false), .c (.bool false), .c (.bool false), .c (.bool true)], .e⟩
def F89 : Fn := ⟨[(some 2), none, none, (some 2)],
 .call 65 [.node [.cell (.v 0) 0, .cell (.v 0) 1], .node [.cell (.v 3) 0, .cell (.v 3) 1]] <|
 .op (.bin .neq) [.cell (.v 4) 1, .c (.int .i64 (0))] <|
 .ite (.v 5) (.leaf 0) <|
 .blk (
  .call 94 [.v 1, .cell (.v 0) 0] <|
  .op (.un .not) [.v 6] <|
  .ite (.v 7) (.leaf 0) <|
  .call 72 [.v 2] <|
  .op (.un .not) [.v 8] <|
  .leaf 1) [([.c (.bool true)], 0), ([.v 9], 0)] [.ite (.v 6) (.leaf 1) <|
  .call 74 [.v 2] <|
  .leaf 2],
 [.node [.node [.c (.list []), .c (.list []), .c (.int .i64 (0)), .c (.int .i64 (0)), .c (.int .i64 (0)), .c (.int .i64 (0)), .c (.int .i64 (0))], .cell (.v 4) 1], .node [.node [.c (.list []), .c (.list []), .c (.int .i64 (0)), .c (.int .i64 (0)), .c (.int .i64 (0)), .c (.int .i64 (0)), .c (.int .i64 (0))], .c (.int .i64 (2))], .node [.node [.cell (.cell (.v 4) 0) 0, .cell (.cell (.v 4) 0) 1, .cell (.cell (.v 4) 0) 2, .cell (.cell (.v 4) 0) 3, .v 1, .cell (.v 7) 0, .cell (.v 7) 1], .c (.int .i64 (0))]], .tup [.node [.e, .e, .e, .e, .e, .e, .e], .e]⟩
def F90 : Fn := ⟨[(some 7), none],
 .op .len [.v 1] <|
 .loop [.cell (.v 0) 4, .c (.int .i64 (0))] (
  .op (.bin .lss) [.v 4, .v 2] <|
  .ite (.v 5) (.blk (
    .op (.idx 1) [.v 1, .v 4] <|
    .op (.elem 0 none) [.v 1, .v 4] <|
    .call 66 [.v 7, .cell (.v 0) 1] <|
    .op (.un .not) [.v 8] <|
    .ite (.v 9) (.leaf 0) <|
    .op (.idx 5) [.cell (.v 0) 1, .v 7] <|
    .op (.elem 0 (some 5)) [.cell (.v 0) 1, .v 7] <|
    .call 122 [.node [.cell (.v 11) 0, .cell (.v 11) 1, .cell (.v 11) 2, .cell (.v 11) 3, .cell (.v 11) 4], .v 3] <|
    .op (.un .not) [.cell (.v 12) 1] <|
    .ite (.v 13) (.leaf 1) <|
    .leaf 2) [([], 0), ([], 0), ([.cell (.v 12) 0], 1)] [.leaf 0,
    .op (.bin .add) [.v 4, .c (.int .i64 (1))] <|
    .leaf 1]) <|
  .leaf 2) [([.v 4], some 0), ([.v 6, .v 7], none), ([], some 1)] [.leaf 0,
  .leaf 1],
 [.node [.v 3, .c (.bool true)], .node [.c (.int .i64 (0)), .c (.bool false)]], .tup [.e, .e]⟩
def F91 : Fn := ⟨[(some 7), none],
 .op (.idx 5) [.cell (.v 0) 1, .v 1] <|
 .op (.elem 0 (some 5)) [.cell (.v 0) 1, .v 1] <|
 .call 122 [.node [.cell (.v 3) 0, .cell (.v 3) 1, .cell (.v 3) 2, .cell (.v 3) 3, .cell (.v 3) 4], .cell (.v 0) 4] <|
 .call 73 [.node [.cell (.v 0) 0, .cell (.v 0) 1, .cell (.v 0) 2, .cell (.v 0) 3, .cell (.v 0) 4, .cell (.v 0) 5, .cell (.v 0) 6], .v 1, .node [.cell (.v 0) 5, .cell (.v 0) 6]] <|
 .call 123 [.node [.cell (.v 0) 0, .cell (.v 0) 1, .cell (.v 0) 2, .cell (.v 0) 3, .cell (.v 0) 4, .cell (.v 0) 5, .cell (.v 0) 6], .v 1, .node [.cell (.v 5) 0, .cell (.v 5) 1]] <|
 .call 68 [.node [.cell (.v 5) 0, .cell (.v 5) 1]] <|
 .call 68 [.node [.cell (.v 6) 0, .cell (.v 6) 1]] <|
 .op (.bin .leq) [.cell (.v 6) 1, .c (.int .i64 (100000))] <|
 .leaf 0,
 [.node [.node [.v 1, .cell (.v 4) 0, .cell (.v 7) 0, .cell (.v 7) 1, .cell (.v 8) 0, .cell (.v 8) 1], .v 9]], .tup [.node [.e, .e, .e, .e, .e, .e], .e]⟩
def F92 : Fn := ⟨[none, (some 6)],
 .op (.listOf 6 1 [.int .i64 (0), .int .i64 (0), .int .i64 (0), .int .i64 (0), .int .i64 (0), .int .i64 (0)] [0]) [.cell (.v 1) 0, .cell (.v 1) 1, .cell (.v 1) 2, .cell (.v 1) 3, .cell (.v 1) 4, .cell (.v 1) 5] <|
 .op (.listOf 1 2 [.list []] [0, 1]) [.v 0, .v 2] <|
 .shal 4 (.v 3) <|
 .call 124 [.v 3] <|
 .shal 1 (.v 4) <|
 .leaf 0,
 [.v 4], .own 6⟩
def F93 : Fn := ⟨[(some 7), (some 6)],
 .leaf 0,
 [.node [.cell (.v 0) 0, .cell (.v 0) 1, .cell (.v 0) 2, .cell (.v 0) 3, .cell (.v 1) 1, .cell (.v 1) 4, .cell (.v 1) 5]], .node [.e, .e, .e, .e, .e, .e, .e]⟩
def F94 : Fn := ⟨[none, none],
 .op .len [.v 1] <|
 .op (.bin .sub) [.v 2, .c (.int .i64 (1))] <|
 .call 97 [.v 0, .c (.int .i64 (0)), .v 3] <|
 .leaf 0,
 [.v 4], .e⟩
def F97 : Fn := ⟨[none, none, none],
 .blk (
  .op (.bin .leq) [.v 1, .v 0] <|
  .ite (.v 3) (.op (.bin .leq) [.v 0, .v 2] <|
   .leaf 0) <|
  .leaf 1) [([.v 4], 0), ([.c (.bool false)], 0)] [.leaf 0],
 [.v 3], .e⟩
def F98 : Fn := ⟨[none, none],
 .op (.bin .add) [.v 0, .v 1] <|
 .op (.bin .sub) [.v 2, .c (.int .i64 (1))] <|
 .op (.bin .quo) [.v 3, .v 1] <|
 .leaf 0,
 [.v 4], .e⟩
def F101 : Fn := ⟨[(some 17)],
 .blk (
  .call 103 [.cell (.v 0) 0, .c (.int .i64 (1)), .c (.int .i64 (1000000))] <|
  .op (.un .not) [.v 1] <|
  .ite (.v 2) (.leaf 0) <|
  .call 103 [.cell (.v 0) 1, .c (.int .i64 (1)), .c (.int .i64 (1000000))] <|
  .op (.un .not) [.v 3] <|
  .ite (.v 4) (.leaf 1) <|
  .call 103 [.cell (.v 0) 14, .c (.int .i64 (0)), .c (.int .i64 (1000))] <|
  .op (.un .not) [.v 5] <|
  .ite (.v 6) (.leaf 2) <|
  .call 104 [.node [.cell (.v 0) 15, .cell (.v 0) 16], .c (.int .i64 (0)), .c (.int .i64 (1000000))] <|
  .op (.un .not) [.v 7] <|
  .leaf 3) [([.c (.bool true)], 0), ([.c (.bool true)], 0), ([.c (.bool true)], 0), ([.v 8], 0)] [.ite (.v 1) (.leaf 0) <|
  .blk (
   .call 104 [.node [.cell (.v 0) 2, .cell (.v 0) 3], .c (.int .i64 (0)), .c (.int .i64 (100000))] <|
   .ite (.v 2) (.call 104 [.node [.cell (.v 0) 4, .cell (.v 0) 5], .c (.int .i64 (0)), .c (.int .i64 (100000))] <|
    .ite (.v 3) (.call 104 [.node [.cell (.v 0) 6, .cell (.v 0) 7], .c (.int .i64 (0)), .c (.int .i64 (100000))] <|
     .ite (.v 4) (.call 104 [.node [.cell (.v 0) 8, .cell (.v 0) 9], .c (.int .i64 (0)), .c (.int .i64 (100000))] <|
      .ite (.v 5) (.call 104 [.node [.cell (.v 0) 10, .cell (.v 0) 11], .c (.int .i64 (0)), .c (.int .i64 (100000))] <|
       .ite (.v 6) (.call 104 [.node [.cell (.v 0) 12, .cell (.v 0) 13], .c (.int .i64 (0)), .c (.int .i64 (100000))] <|
        .leaf 0) <|
       .leaf 1) <|
      .leaf 2) <|
     .leaf 3) <|
    .leaf 4) <|
   .leaf 5) [([.v 7], 0), ([.c (.bool false)], 0), ([.c (.bool false)], 0), ([.c (.bool false)], 0), ([.c (.bool false)], 0), ([.c (.bool false)], 0)] [.leaf 1]],
 [.c (.bool false), .v 2], .e⟩
def F102 : Fn := ⟨[(some 17), (some 7)],
 .blk (
  .call 104 [.node [.cell (.v 1) 0, .cell (.v 1) 1], .c (.int .i64 (0)), .cell (.v 0) 0] <|
  .ite (.v 2) (.call 104 [.node [.cell (.v 1) 2, .cell (.v 1) 3], .c (.int .i64 (0)), .cell (.v 0) 1] <|
   .ite (.v 3) (.call 104 [.node [.cell (.v 1) 4, .cell (.v 1) 5], .c (.int .i64 (0)), .c (.int .i64 (1000))] <|
    .leaf 0) <|
   .leaf 1) <|
  .leaf 2) [([.v 4], 0), ([.c (.bool false)], 0), ([.c (.bool false)], 0)] [.leaf 0],
 [.v 2], .e⟩
def F103 : Fn := ⟨[none, none, none],
 .blk (
  .op (.bin .geq) [.v 0, .v 1] <|
  .ite (.v 3) (.op (.bin .leq) [.v 0, .v 2] <|
   .leaf 0) <|
  .leaf 1) [([.v 4], 0), ([.c (.bool false)], 0)] [.leaf 0],
 [.v 3], .e⟩
def F104 : Fn := ⟨[(some 2), none, none],
 .blk (
  .call 103 [.cell (.v 0) 0, .v 1, .cell (.v 0) 1] <|
  .ite (.v 3) (.op (.bin .leq) [.cell (.v 0) 1, .v 2] <|
   .leaf 0) <|
  .leaf 1) [([.v 4], 0), ([.c (.bool false)], 0)] [.leaf 0],
 [.v 3], .e⟩
def F105 : Fn := ⟨[(some 17), (some 7), none],
 .call 112 [.node [.cell (.v 0) 0, .cell (.v 0) 1, .cell (.v 0) 2, .cell (.v 0) 3, .cell (.v 0) 4, .cell (.v 0) 5, .cell (.v 0) 6, .cell (.v 0) 7, .cell (.v 0) 8, .cell (.v 0) 9, .cell (.v 0) 10, .cell (.v 0) 11, .cell (.v 0) 12, .cell (.v 0) 13, .cell (.v 0) 14, .cell (.v 0) 15, .cell (.v 0) 16], .node [.cell (.v 1) 0, .cell (.v 1) 1, .cell (.v 1) 2, .cell (.v 1) 3, .cell (.v 1) 4, .cell (.v 1) 5, .cell (.v 1) 6]] <|
 .op (.bin .neq) [.v 3, .c (.int .i64 (0))] <|
 .ite (.v 4) (.leaf 0) <|
 .op .len [.v 2] <|
 .op (.bin .gtr) [.v 5, .c (.int .i64 (60))] <|
 .ite (.v 6) (.leaf 1) <|
 .call 125 [.v 2] <|
 .leaf 2,
 [.v 3, .c (.int .i64 (4)), .v 7], .e⟩
def F106 : Fn := ⟨[none],
 .leaf 0,
 [.node [.v 0, .v 0]], .node [.e, .e]⟩
def F107 : Fn := ⟨[(some 17), (some 7)],
 .leaf 0,
 [.node [.cell (.v 0) 0, .cell (.v 0) 1, .cell (.v 0) 2, .cell (.v 0) 3, .cell (.v 0) 4, .cell (.v 0) 5, .cell (.v 0) 6, .cell (.v 0) 7, .cell (.v 0) 8, .cell (.v 0) 9, .cell (.v 0) 10, .cell (.v 0) 11, .cell (.v 0) 12, .cell (.v 0) 13, .cell (.v 0) 14, .cell (.v 0) 15, .cell (.v 0) 16, .cell (.v 1) 0, .cell (.v 1) 1, .cell (.v 1) 2, .cell (.v 1) 3, .cell (.v 1) 4, .cell (.v 1) 5, .cell (.v 1) 6]], .node [.e, .e, .e, .e, .e, .e, .e, .e, .e, .e, .e, .e, .e, .e, .e, .e, .e, .e, .e, .e, .e, .e, .e, .e]⟩
def F109 : Fn := ⟨[none, none],
 .op .len [.v 0] <|
 .op (.bin .eql) [.v 2, .c (.int .i64 (1))] <|
 .ite (.v 3) (.op (.bin .eql) [.v 1, .c (.int .i64 (60))] <|
  .ite (.v 4) (.op (.idx 8) [.v 0, .c (.int .i64 (0))] <|
   .op (.elem 0 (some 8)) [.v 0, .c (.int .i64 (0))] <|
   .op (.bin .eql) [.cell (.v 6) 0, .c (.int .i64 (0))] <|
   .op (.bin .eql) [.cell (.v 6) 1, .c (.int .i64 (0))] <|
   .op (.bin .eql) [.cell (.v 6) 2, .c (.int .i64 (0))] <|
   .op (.bin .eql) [.cell (.v 6) 3, .c (.int .i64 (0))] <|
   .op (.bin .eql) [.cell (.v 6) 4, .c (.int .i64 (0))] <|
   .op (.bin .eql) [.cell (.v 6) 5, .c (.int .i64 (0))] <|
   .op (.bin .eql) [.cell (.v 6) 6, .c (.int .i64 (0))] <|
   .op (.bin .eql) [.cell (.v 6) 7, .c (.int .i64 (0))] <|
   .op (.listOf 8 60 [.int .i64 (0), .int .i64 (0), .int .i64 (0), .int .i64 (0), .int .i64 (0), .int .i64 (0), .int .i64 (0), .int .i64 (0)] [0, 1, 2, 3, 4, 5, 6, 7, 8, 9, 10, 11, 12, 13, 14, 15, 16, 17, 18, 19, 20, 21, 22, 23, 24, 25, 26, 27, 28, 29, 30, 31, 32, 33, 34, 35, 36, 37, 38, 39, 40, 41, 42, 43, 44, 45, 46, 47, 48, 49, 50, 51, 52, 53, 54, 55, 56, 57, 58, 59]) [.cell (.v 6) 0, .cell (.v 6) 1, .cell (.v 6) 2, .cell (.v 6) 3, .cell (.v 6) 4, .cell (.v 6) 5, .cell (.v 6) 6, .cell (.v 6) 7, .cell (.v 6) 0, .cell (.v 6) 1, .cell (.v 6) 2, .cell (.v 6) 3, .cell (.v 6) 4, .cell (.v 6) 5, .cell (.v 6) 6, .cell (.v 6) 7, .cell (.v 6) 0, .cell (.v 6) 1, .cell (.v 6) 2, .cell (.v 6) 3, .cell (.v 6) 4, .cell (.v 6) 5, .cell (.v 6) 6, .cell (.v 6) 7, .cell (.v 6) 0, .cell (.v 6) 1, .cell (.v 6) 2, .cell (.v 6) 3, .cell (.v 6) 4, .cell (.v 6) 5, .cell (.v 6) 6, .cell (.v 6) 7, .cell (.v 6) 0, .cell (.v 6) 1, .cell (.v 6) 2, .cell (.v 6) 3, .cell (.v 6) 4, .cell (.v 6) 5, .cell (.v 6) 6, .cell (.v 6) 7, .cell (.v 6) 0, .cell (.v 6) 1, .cell (.v 6) 2, .cell (.v 6) 3, .cell (.v 6) 4, .cell (.v 6) 5, .cell (.v 6) 6, .cell (.v 6) 7, .cell (.v 6) 0, .cell (.v 6) 1, .cell (.v 6) 2, .cell (.v 6) 3, .cell (.v 6) 4, .cell (.v 6) 5, .cell (.v 6) 6, .cell (.v 6) 7, .cell (.v 6) 0, .cell (.v 6) 1, .cell (.v 6) 2, .cell (.v 6) 3, .cell (.v 6) 4, .cell (.v 6) 5, .cell (.v 6) 6, .cell (.v 6) 7, .cell (.v 6) 0, .cell (.v 6) 1, .cell (.v 6) 2, .cell (.v 6) 3, .cell (.v 6) 4, .cell (.v 6) 5, .cell (.v 6) 6, .cell (.v 6) 7, .cell (.v 6) 0, .cell (.v 6) 1, .cell (.v 6) 2, .cell (.v 6) 3, .cell (.v 6) 4, .cell (.v 6) 5, .cell (.v 6) 6, .cell (.v 6) 7, .cell (.v 6) 0, .cell (.v 6) 1, .cell (.v 6) 2, .cell (.v 6) 3, .cell (.v 6) 4, .cell (.v 6) 5, .cell (.v 6) 6, .cell (.v 6) 7, .cell (.v 6) 0, .cell (.v 6) 1, .cell (.v 6) 2, .cell (.v 6) 3, .cell (.v 6) 4, .cell (.v 6) 5, .cell (.v 6) 6, .cell (.v 6) 7, .cell (.v 6) 0, .cell (.v 6) 1, .cell (.v 6) 2, .cell (.v 6) 3, .cell (.v 6) 4, .cell (.v 6) 5, .cell (.v 6) 6, .cell (.v 6) 7, .cell (.v 6) 0, .cell (.v 6) 1, .cell (.v 6) 2, .cell (.v 6) 3, .cell (.v 6) 4, .cell (.v 6) 5, .cell (.v 6) 6, .cell (.v 6) 7, .cell (.v 6) 0, .cell (.v 6) 1, .cell (.v 6) 2, .cell (.v 6) 3, .cell (.v 6) 4, .cell (.v 6) 5, .cell (.v 6) 6, .cell (.v 6) 7, .cell (.v 6) 0, .cell (.v 6) 1, .cell (.v 6) 2, .cell (.v 6) 3, .cell (.v 6) 4, .cell (.v 6) 5, .cell (.v 6) 6, .cell (.v 6) 7, .cell (.v 6) 0, .cell (.v 6) 1, .cell (.v 6) 2, .cell (.v 6) 3, .cell (.v 6) 4, .cell (.v 6) 5, .cell (.v 6) 6, .cell (.v 6) 7, .cell (.v 6) 0, .cell (.v 6) 1, .cell (.v 6) 2, .cell (.v 6) 3, .cell (.v 6) 4, .cell (.v 6) 5, .cell (.v 6) 6, .cell (.v 6) 7, .cell (.v 6) 0, .cell (.v 6) 1, .cell (.v 6) 2, .cell (.v 6) 3, .cell (.v 6) 4, .cell (.v 6) 5, .cell (.v 6) 6, .cell (.v 6) 7, .cell (.v 6) 0, .cell (.v 6) 1, .cell (.v 6) 2, .cell (.v 6) 3, .cell (.v 6) 4, .cell (.v 6) 5, .cell (.v 6) 6, .cell (.v 6) 7, .cell (.v 6) 0, .cell (.v 6) 1, .cell (.v 6) 2, .cell (.v 6) 3, .cell (.v 6) 4, .cell (.v 6) 5, .cell (.v 6) 6, .cell (.v 6) 7, .cell (.v 6) 0, .cell (.v 6) 1, .cell (.v 6) 2, .cell (.v 6) 3, .cell (.v 6) 4, .cell (.v 6) 5, .cell (.v 6) 6, .cell (.v 6) 7, .cell (.v 6) 0, .cell (.v 6) 1, .cell (.v 6) 2, .cell (.v 6) 3, .cell (.v 6) 4, .cell (.v 6) 5, .cell (.v 6) 6, .cell (.v 6) 7, .cell (.v 6) 0, .cell (.v 6) 1, .cell (.v 6) 2, .cell (.v 6) 3, .cell (.v 6) 4, .cell (.v 6) 5, .cell (.v 6) 6, .cell (.v 6) 7, .cell (.v 6) 0, .cell (.v 6) 1, .cell (.v 6) 2, .cell (.v 6) 3, .cell (.v 6) 4, .cell (.v 6) 5, .cell (.v 6) 6, .cell (.v 6) 7, .cell (.v 6) 0, .cell (.v 6) 1, .cell (.v 6) 2, .cell (.v 6) 3, .cell (.v 6) 4, .cell (.v 6) 5, .cell (.v 6) 6, .cell (.v 6) 7, .cell (.v 6) 0, .cell (.v 6) 1, .cell (.v 6) 2, .cell (.v 6) 3, .cell (.v 6) 4, .cell (.v 6) 5, .cell (.v 6) 6, .cell (.v 6) 7, .cell (.v 6) 0, .cell (.v 6) 1, .cell (.v 6) 2, .cell (.v 6) 3, .cell (.v 6) 4, .cell (.v 6) 5, .cell (.v 6) 6, .cell (.v 6) 7, .cell (.v 6) 0, .cell (.v 6) 1, .cell (.v 6) 2, .cell (.v 6) 3, .cell (.v 6) 4, .cell (.v 6) 5, .cell (.v 6) 6, .cell (.v 6) 7, .cell (.v 6) 0, .cell (.v 6) 1, .cell (.v 6) 2, .cell (.v 6) 3, .cell (.v 6) 4, .cell (.v 6) 5, .cell (.v 6) 6, .cell (.v 6) 7, .cell (.v 6) 0, .cell (.v 6) 1, .cell (.v 6) 2, .cell (.v 6) 3, .cell (.v 6) 4, .cell (.v 6) 5, .cell (.v 6) 6, .cell (.v 6) 7, .cell (.v 6) 0, .cell (.v 6) 1, .cell (.v 6) 2, .cell (.v 6) 3, .cell (.v 6) 4, .cell (.v 6) 5, .cell (.v 6) 6, .cell (.v 6) 7, .cell (.v 6) 0, .cell (.v 6) 1, .cell (.v 6) 2, .cell (.v 6) 3, .cell (.v 6) 4, .cell (.v 6) 5, .cell (.v 6) 6, .cell (.v 6) 7, .cell (.v 6) 0, .cell (.v 6) 1, .cell (.v 6) 2, .cell (.v 6) 3, .cell (.v 6) 4, .cell (.v 6) 5, .cell (.v 6) 6, .cell (.v 6) 7, .cell (.v 6) 0, .cell (.v 6) 1, .cell (.v 6) 2, .cell (.v 6) 3, .cell (.v 6) 4, .cell (.v 6) 5, .cell (.v 6) 6, .cell (.v 6) 7, .cell (.v 6) 0, .cell (.v 6) 1, .cell (.v 6) 2, .cell (.v 6) 3, .cell (.v 6) 4, .cell (.v 6) 5, .cell (.v 6) 6, .cell (.v 6) 7, .cell (.v 6) 0, .cell (.v 6) 1, .cell (.v 6) 2, .cell (.v 6) 3, .cell (.v 6) 4, .cell (.v 6) 5, .cell (.v 6) 6, .cell (.v 6) 7, .cell (.v 6) 0, .cell (.v 6) 1, .cell (.v 6) 2, .cell (.v 6) 3, .cell (.v 6) 4, .cell (.v 6) 5, .cell (.v 6) 6, .cell (.v 6) 7, .cell (.v 6) 0, .cell (.v 6) 1, .cell (.v 6) 2, .cell (.v 6) 3, .cell (.v 6) 4, .cell (.v 6) 5, .cell (.v 6) 6, .cell (.v 6) 7, .cell (.v 6) 0, .cell (.v 6) 1, .cell (.v 6) 2, .cell (.v 6) 3, .cell (.v 6) 4, .cell (.v 6) 5, .cell (.v 6) 6, .cell (.v 6) 7, .cell (.v 6) 0, .cell (.v 6) 1, .cell (.v 6) 2, .cell (.v 6) 3, .cell (.v 6) 4, .cell (.v 6) 5, .cell (.v 6) 6, .cell (.v 6) 7, .cell (.v 6) 0, .cell (.v 6) 1, .cell (.v 6) 2, .cell (.v 6) 3, .cell (.v 6) 4, .cell (.v 6) 5, .cell (.v 6) 6, .cell (.v 6) 7, .cell (.v 6) 0, .cell (.v 6) 1, .cell (.v 6) 2, .cell (.v 6) 3, .cell (.v 6) 4, .cell (.v 6) 5, .cell (.v 6) 6, .cell (.v 6) 7, .cell (.v 6) 0, .cell (.v 6) 1, .cell (.v 6) 2, .cell (.v 6) 3, .cell (.v 6) 4, .cell (.v 6) 5, .cell (.v 6) 6, .cell (.v 6) 7, .cell (.v 6) 0, .cell (.v 6) 1, .cell (.v 6) 2, .cell (.v 6) 3, .cell (.v 6) 4, .cell (.v 6) 5, .cell (.v 6) 6, .cell (.v 6) 7, .cell (.v 6) 0, .cell (.v 6) 1, .cell (.v 6) 2, .cell (.v 6) 3, .cell (.v 6) 4, .cell (.v 6) 5, .cell (.v 6) 6, .cell (.v 6) 7, .cell (.v 6) 0, .cell (.v 6) 1, .cell (.v 6) 2, .cell (.v 6) 3, .cell (.v 6) 4, .cell (.v 6) 5, .cell (.v 6) 6, .cell (.v 6) 7, .cell (.v 6) 0, .cell (.v 6) 1, .cell (.v 6) 2, .cell (.v 6) 3, .cell (.v 6) 4, .cell (.v 6) 5, .cell (.v 6) 6, .cell (.v 6) 7, .cell (.v 6) 0, .cell (.v 6) 1, .cell (.v 6) 2, .cell (.v 6) 3, .cell (.v 6) 4, .cell (.v 6) 5, .cell (.v 6) 6, .cell (.v 6) 7, .cell (.v 6) 0, .cell (.v 6) 1, .cell (.v 6) 2, .cell (.v 6) 3, .cell (.v 6) 4, .cell (.v 6) 5, .cell (.v 6) 6, .cell (.v 6) 7, .cell (.v 6) 0, .cell (.v 6) 1, .cell (.v 6) 2, .cell (.v 6) 3, .cell (.v 6) 4, .cell (.v 6) 5, .cell (.v 6) 6, .cell (.v 6) 7, .cell (.v 6) 0, .cell (.v 6) 1, .cell (.v 6) 2, .cell (.v 6) 3, .cell (.v 6) 4, .cell (.v 6) 5, .cell (.v 6) 6, .cell (.v 6) 7, .cell (.v 6) 0, .cell (.v 6) 1, .cell (.v 6) 2, .cell (.v 6) 3, .cell (.v 6) 4, .cell (.v 6) 5, .cell (.v 6) 6, .cell (.v 6) 7, .cell (.v 6) 0, .cell (.v 6) 1, .cell (.v 6) 2, .cell (.v 6) 3, .cell (.v 6) 4, .cell (.v 6) 5, .cell (.v 6) 6, .cell (.v 6) 7, .cell (.v 6) 0, .cell (.v 6) 1, .cell (.v 6) 2, .cell (.v 6) 3, .cell (.v 6) 4, .cell (.v 6) 5, .cell (.v 6) 6, .cell (.v 6) 7, .cell (.v 6) 0, .cell (.v 6) 1, .cell (.v 6) 2, .cell (.v 6) 3, .cell (.v 6) 4, .cell (.v 6) 5, .cell (.v 6) 6, .cell (.v 6) 7, .cell (.v 6) 0, .cell (.v 6) 1, .cell (.v 6) 2, .cell (.v 6) 3, .cell (.v 6) 4, .cell (.v 6) 5, .cell (.v 6) 6, .cell (.v 6) 7, .cell (.v 6) 0, .cell (.v 6) 1, .cell (.v 6) 2, .cell (.v 6) 3, .cell (.v 6) 4, .cell (.v 6) 5, .cell (.v 6) 6, .cell (.v 6) 7, .cell (.v 6) 0, .cell (.v 6) 1, .cell (.v 6) 2, .cell (.v 6) 3, .cell (.v 6) 4, .cell (.v 6) 5, .cell (.v 6) 6, .cell (.v 6) 7, .cell (.v 6) 0, .cell (.v 6) 1, .cell (.v 6) 2, .cell (.v 6) 3, .cell (.v 6) 4, .cell (.v 6) 5, .cell (.v 6) 6, .cell (.v 6) 7] <|
   .leaf 0) <|
  .fail) <|
 .fail,
 [.v 15], .own 8⟩
def F110 : Fn := ⟨[(some 24)],
 .leaf 0,
 [.node [.cell (.v 0) 17, .cell (.v 0) 18, .cell (.v 0) 19, .cell (.v 0) 20, .cell (.v 0) 21, .cell (.v 0) 22, .cell (.v 0) 23]], .node [.e, .e, .e, .e, .e, .e, .e]⟩
def F111 : Fn := ⟨[(some 17)],
 .blk (
  .op (.bin .lss) [.cell (.v 0) 0, .c (.int .i64 (1))] <|
  .ite (.v 1) (.leaf 0) <|
  .op (.bin .gtr) [.cell (.v 0) 0, .c (.int .i64 (1000000))] <|
  .ite (.v 2) (.leaf 1) <|
  .op (.bin .lss) [.cell (.v 0) 1, .c (.int .i64 (1))] <|
  .ite (.v 3) (.leaf 2) <|
  .op (.bin .gtr) [.cell (.v 0) 1, .c (.int .i64 (1000000))] <|
  .leaf 3) [([.c (.bool true)], 0), ([.c (.bool true)], 0), ([.c (.bool true)], 0), ([.v 4], 0)] [.blk (
   .ite (.v 1) (.leaf 0) <|
   .op (.listOf 2 6 [.int .i64 (0), .int .i64 (0)] [0, 1, 2, 3, 4, 5]) [.cell (.v 0) 2, .cell (.v 0) 3, .cell (.v 0) 4, .cell (.v 0) 5, .cell (.v 0) 6, .cell (.v 0) 7, .cell (.v 0) 8, .cell (.v 0) 9, .cell (.v 0) 10, .cell (.v 0) 11, .cell (.v 0) 12, .cell (.v 0) 13] <|
   .call 129 [.c (.int .i64 (100000)), .v 2] <|
   .flat (.v 3) <|
   .op (.un .not) [.v 3] <|
   .blk (
    .ite (.v 4) (.leaf 0) <|
    .blk (
     .op (.bin .lss) [.cell (.v 0) 14, .c (.int .i64 (0))] <|
     .ite (.v 5) (.leaf 0) <|
     .op (.bin .gtr) [.cell (.v 0) 14, .c (.int .i64 (1000))] <|
     .ite (.v 6) (.leaf 1) <|
     .op (.listOf 2 1 [.int .i64 (0), .int .i64 (0)] [0]) [.cell (.v 0) 15, .cell (.v 0) 16] <|
     .call 129 [.c (.int .i64 (1000000)), .v 7] <|
     .flat (.v 8) <|
     .op (.un .not) [.v 8] <|
     .leaf 2) [([.c (.bool true)], 0), ([.c (.bool true)], 0), ([.v 9], 0)] [.ite (.v 5) (.leaf 1) <|
     .leaf 2]) [([], 0), ([], 0), ([], 1)] [.leaf 1,
    .leaf 2]) [([], 0), ([], 0), ([], 1)] [.leaf 0,
   .leaf 1]],
 [.c (.int .i64 (10)), .c (.int .i64 (0))], .e⟩
def F112 : Fn := ⟨[(some 17), (some 7)],
 .call 111 [.node [.cell (.v 0) 0, .cell (.v 0) 1, .cell (.v 0) 2, .cell (.v 0) 3, .cell (.v 0) 4, .cell (.v 0) 5, .cell (.v 0) 6, .cell (.v 0) 7, .cell (.v 0) 8, .cell (.v 0) 9, .cell (.v 0) 10, .cell (.v 0) 11, .cell (.v 0) 12, .cell (.v 0) 13, .cell (.v 0) 14, .cell (.v 0) 15, .cell (.v 0) 16]] <|
 .op (.bin .neq) [.v 2, .c (.int .i64 (0))] <|
 .ite (.v 3) (.leaf 0) <|
 .blk (
  .op (.listOf 2 1 [.int .i64 (0), .int .i64 (0)] [0]) [.cell (.v 1) 0, .cell (.v 1) 1] <|
  .call 129 [.cell (.v 0) 0, .v 4] <|
  .flat (.v 5) <|
  .op (.un .not) [.v 5] <|
  .ite (.v 6) (.leaf 0) <|
  .op (.listOf 2 1 [.int .i64 (0), .int .i64 (0)] [0]) [.cell (.v 1) 2, .cell (.v 1) 3] <|
  .call 129 [.cell (.v 0) 1, .v 7] <|
  .flat (.v 8) <|
  .op (.un .not) [.v 8] <|
  .ite (.v 9) (.leaf 1) <|
  .op (.listOf 2 1 [.int .i64 (0), .int .i64 (0)] [0]) [.cell (.v 1) 4, .cell (.v 1) 5] <|
  .call 129 [.c (.int .i64 (1000)), .v 10] <|
  .flat (.v 11) <|
  .op (.un .not) [.v 11] <|
  .leaf 2) [([.c (.bool true)], 0), ([.c (.bool true)], 0), ([.v 12], 0)] [.ite (.v 4) (.leaf 1) <|
  .leaf 2],
 [.v 2, .c (.int .i64 (11)), .c (.int .i64 (0))], .e⟩
def F115 : Fn := ⟨[(some 2), none, none],
 .blk (
  .op (.bin .leq) [.v 1, .cell (.v 0) 0] <|
  .ite (.v 3) (.op (.bin .leq) [.cell (.v 0) 0, .cell (.v 0) 1] <|
   .ite (.v 4) (.op (.bin .leq) [.cell (.v 0) 1, .v 2] <|
    .leaf 0) <|
   .leaf 1) <|
  .leaf 2) [([.v 5], 0), ([.c (.bool false)], 0), ([.c (.bool false)], 0)] [.leaf 0],
 [.v 3], .e⟩
def F116 : Fn := ⟨[none],
 .op .len [.v 0] <|
 .loop [.c (.int .i64 (100001)), .c (.int .i64 (0))] (
  .op (.bin .lss) [.v 3, .v 1] <|
  .ite (.v 4) (.op (.idx 1) [.v 0, .v 3] <|
   .op (.elem 0 none) [.v 0, .v 3] <|
   .op (.mx false) [.v 2, .v 6] <|
   .op (.bin .add) [.v 3, .c (.int .i64 (1))] <|
   .leaf 0) <|
  .leaf 1) [([.v 7, .v 8], none), ([.v 2], some 0)] [.leaf 0],
 [.v 2], .e⟩
def F117 : Fn := ⟨[(some 9)],
 .blk (
  .call 97 [.cell (.v 0) 0, .c (.int .i64 (-10000000)), .c (.int .i64 (10000000))] <|
  .ite (.v 1) (.call 97 [.cell (.v 0) 1, .c (.int .i64 (-10000000)), .c (.int .i64 (10000000))] <|
   .ite (.v 2) (.call 97 [.cell (.v 0) 2, .c (.int .i64 (0)), .c (.int .i64 (200))] <|
    .ite (.v 3) (.call 115 [.node [.cell (.v 0) 3, .cell (.v 0) 4], .c (.int .i64 (0)), .c (.int .i64 (10000000))] <|
     .ite (.v 4) (.call 97 [.cell (.v 0) 5, .c (.int .i64 (0)), .c (.int .i64 (1000000000))] <|
      .ite (.v 5) (.call 115 [.node [.cell (.v 0) 6, .cell (.v 0) 7], .c (.int .i64 (0)), .cell (.v 0) 5] <|
       .ite (.v 6) (.call 97 [.cell (.v 0) 8, .c (.int .i64 (0)), .c (.int .i64 (9999))] <|
        .leaf 0) <|
       .leaf 1) <|
      .leaf 2) <|
     .leaf 3) <|
    .leaf 4) <|
   .leaf 5) <|
  .leaf 6) [([.v 7], 0), ([.c (.bool false)], 0), ([.c (.bool false)], 0), ([.c (.bool false)], 0), ([.c (.bool false)], 0), ([.c (.bool false)], 0), ([.c (.bool false)], 0)] [.leaf 0],
 [.v 1], .e⟩
def F118 : Fn := ⟨[(some 5)],
 .blk (
  .op (.bin .neq) [.cell (.v 0) 0, .cell (.v 0) 1] <|
  .ite (.v 1) (.call 115 [.node [.cell (.v 0) 2, .cell (.v 0) 3], .c (.int .i64 (1)), .c (.int .i64 (1000000))] <|
   .ite (.v 2) (.call 130 [.cell (.v 0) 4] <|
    .leaf 0) <|
   .leaf 1) <|
  .leaf 2) [([.v 3], 0), ([.c (.bool false)], 0), ([.c (.bool false)], 0)] [.leaf 0],
 [.v 1], .e⟩
def F122 : Fn := ⟨[(some 5), none],
 .op (.bin .eql) [.v 1, .cell (.v 0) 0] <|
 .blk (
  .ite (.v 2) (.leaf 0) <|
  .op (.bin .eql) [.v 1, .cell (.v 0) 1] <|
  .ite (.v 3) (.leaf 1) <|
  .leaf 2) [([.cell (.v 0) 1], 0), ([.cell (.v 0) 0], 0), ([], 1)] [.leaf 0,
  .leaf 1],
 [.node [.v 3, .c (.bool true)], .node [.c (.int .i64 (0)), .c (.bool false)]], .tup [.e, .e]⟩
def F123 : Fn := ⟨[(some 7), none, (some 2)],
 .call 67 [.node [.cell (.v 0) 0, .cell (.v 0) 1, .cell (.v 0) 2, .cell (.v 0) 3, .cell (.v 0) 4, .cell (.v 0) 5, .cell (.v 0) 6], .v 1] <|
 .op (.bin .add) [.cell (.v 2) 0, .cell (.v 3) 0] <|
 .op (.listOf 1 1 [.int .i64 (0)] [0]) [.v 4] <|
 .call 116 [.v 5] <|
 .flat (.v 6) <|
 .op (.bin .add) [.cell (.v 2) 1, .cell (.v 3) 1] <|
 .op (.listOf 1 1 [.int .i64 (0)] [0]) [.v 7] <|
 .call 116 [.v 8] <|
 .flat (.v 9) <|
 .leaf 0,
 [.node [.v 6, .v 9]], .node [.e, .e]⟩
def F124 : Fn := ⟨[none],
 .op .len [.v 0] <|
 .loop [.c (.int .i64 (0)), .c (.int .i64 (0))] (
  .op (.bin .lss) [.v 3, .v 1] <|
  .ite (.v 4) (.op (.idx 1) [.v 0, .v 3] <|
   .op (.elem 0 none) [.v 0, .v 3] <|
   .op .len [.v 6] <|
   .op (.bin .add) [.v 2, .v 7] <|
   .op (.bin .lss) [.v 8, .c (.int .i64 (0))] <|
   .ite (.v 9) (.fail) <|
   .op (.bin .add) [.v 3, .c (.int .i64 (1))] <|
   .leaf 0) <|
  .leaf 1) [([.v 8, .v 10], none), ([.v 2], some 0)] [.op (.bin .lss) [.v 2, .c (.int .i64 (0))] <|
  .ite (.v 3) (.fail) <|
  .op (.bin .sub) [.v 2, .c (.int .i64 (0))] <|
  .op (.bin .gtr) [.v 4, .c (.int .i64 (0))] <|
  .blk (
   .ite (.v 5) (.op (.appZ 6 48 [.int .i64 (0), .int .i64 (0), .int .i64 (0), .int .i64 (0), .int .i64 (0), .int .i64 (0)]) [.v 4] <|
    .op (.sl 6 false true) [.v 6, .c (.int .i64 (0))] <|
    .leaf 0) <|
   .leaf 1) [([.v 7], 0), ([.c (.list [])], 0)] [.op .len [.v 0] <|
   .loop [.c (.int .i64 (0)), .v 6] (
    .op (.bin .lss) [.v 8, .v 7] <|
    .ite (.v 10) (.op (.idx 1) [.v 0, .v 8] <|
     .op (.elem 0 none) [.v 0, .v 8] <|
     .op (.app 6 48) [.v 9, .v 12] <|
     .op (.bin .add) [.v 8, .c (.int .i64 (1))] <|
     .leaf 0) <|
    .leaf 1) [([.v 14, .v 13], none), ([.v 9], some 0)] [.leaf 0]]],
 [.v 8], .own 6⟩
def F125 : Fn := ⟨[none],
 .op .len [.v 0] <|
 .loop [.c (.int .i64 (0))] (
  .op (.bin .lss) [.v 2, .v 1] <|
  .ite (.v 3) (.op (.idx 8) [.v 0, .v 2] <|
   .op (.elem 0 (some 8)) [.v 0, .v 2] <|
   .blk (
    .op (.bin .lss) [.cell (.v 5) 0, .c (.int .i64 (0))] <|
    .ite (.v 6) (.leaf 0) <|
    .op (.bin .gtr) [.cell (.v 5) 0, .c (.int .i64 (24))] <|
    .ite (.v 7) (.leaf 1) <|
    .op (.bin .lss) [.cell (.v 5) 1, .c (.int .i64 (0))] <|
    .ite (.v 8) (.leaf 2) <|
    .op (.bin .gtr) [.cell (.v 5) 1, .c (.int .i64 (1000000))] <|
    .leaf 3) [([.c (.bool true)], 0), ([.c (.bool true)], 0), ([.c (.bool true)], 0), ([.v 9], 0)] [.blk (
     .ite (.v 6) (.leaf 0) <|
     .blk (
      .op (.listOf 2 1 [.int .i64 (0), .int .i64 (0)] [0]) [.cell (.v 5) 2, .cell (.v 5) 3] <|
      .call 129 [.c (.int .i64 (60)), .v 7] <|
      .flat (.v 8) <|
      .op (.un .not) [.v 8] <|
      .ite (.v 9) (.leaf 0) <|
      .op (.listOf 2 2 [.int .i64 (0), .int .i64 (0)] [0, 1]) [.cell (.v 5) 4, .cell (.v 5) 5, .cell (.v 5) 6, .cell (.v 5) 7] <|
      .call 129 [.c (.int .i64 (1000000)), .v 10] <|
      .flat (.v 11) <|
      .op (.un .not) [.v 11] <|
      .leaf 1) [([.c (.bool true)], 0), ([.v 12], 0)] [.ite (.v 7) (.leaf 1) <|
      .leaf 2]) [([], 0), ([], 0), ([], 1)] [.leaf 0,
     .op (.bin .add) [.v 2, .c (.int .i64 (1))] <|
     .leaf 1]]) <|
  .leaf 2) [([], some 0), ([.v 7], none), ([], some 1)] [.leaf 0,
  .leaf 1],
 [.c (.int .i64 (12)), .c (.int .i64 (0))], .e⟩
def F127 : Fn := ⟨[(some 24), (some 8)],
 .call 138 [.node [.cell (.v 0) 0, .cell (.v 0) 1, .cell (.v 0) 2, .cell (.v 0) 3, .cell (.v 0) 4, .cell (.v 0) 5, .cell (.v 0) 6, .cell (.v 0) 7, .cell (.v 0) 8, .cell (.v 0) 9, .cell (.v 0) 10, .cell (.v 0) 11, .cell (.v 0) 12, .cell (.v 0) 13, .cell (.v 0) 14, .cell (.v 0) 15, .cell (.v 0) 16, .cell (.v 0) 17, .cell (.v 0) 18, .cell (.v 0) 19, .cell (.v 0) 20, .cell (.v 0) 21, .cell (.v 0) 22, .cell (.v 0) 23], .node [.cell (.v 1) 0, .cell (.v 1) 1, .cell (.v 1) 2, .cell (.v 1) 3, .cell (.v 1) 4, .cell (.v 1) 5, .cell (.v 1) 6, .cell (.v 1) 7]] <|
 .blk (
  .op (.bin .lss) [.cell (.v 0) 18, .cell (.v 2) 0] <|
  .ite (.v 3) (.leaf 0) <|
  .op (.bin .lss) [.cell (.v 0) 17, .cell (.v 2) 1] <|
  .blk (
   .ite (.v 4) (.leaf 0) <|
   .leaf 1) [([.c (.int .u8 (1))], 0), ([.c (.int .u8 (0))], 0)] [.op (.bin .lss) [.cell (.v 0) 20, .cell (.v 2) 2] <|
   .ite (.v 6) (.leaf 1) <|
   .op (.bin .lss) [.cell (.v 0) 19, .cell (.v 2) 3] <|
   .blk (
    .ite (.v 7) (.leaf 0) <|
    .leaf 1) [([.c (.int .u8 (1))], 0), ([.v 5], 0)] [.leaf 2]]) [([], 0), ([], 0), ([.v 8], 1)] [.leaf 0,
  .op (.bin .eql) [.cell (.v 1) 0, .c (.int .i64 (0))] <|
  .blk (
   .ite (.v 4) (.leaf 0) <|
   .leaf 1) [([.cell (.v 0) 14], 0), ([.c (.int .i64 (0))], 0)] [.call 139 [.node [.cell (.v 0) 17, .cell (.v 0) 18], .node [.cell (.v 2) 0, .cell (.v 2) 1], .node [.cell (.v 1) 6, .cell (.v 1) 7], .cell (.v 0) 0] <|
   .call 139 [.node [.cell (.v 0) 19, .cell (.v 0) 20], .node [.cell (.v 2) 2, .cell (.v 2) 3], .node [.cell (.v 1) 4, .cell (.v 1) 5], .cell (.v 0) 1] <|
   .op (.listOf 2 2 [.int .i64 (0), .int .i64 (0)] [0, 1]) [.cell (.v 0) 21, .cell (.v 0) 22, .cell (.v 2) 4, .cell (.v 2) 5] <|
   .call 142 [.v 8] <|
   .flat (.cell (.v 9) 0) <|
   .flat (.cell (.v 9) 1) <|
   .call 106 [.v 5] <|
   .call 141 [.node [.cell (.v 9) 0, .cell (.v 9) 1], .node [.cell (.v 10) 0, .cell (.v 10) 1]] <|
   .call 140 [.node [.cell (.v 11) 0, .cell (.v 11) 1], .c (.int .i64 (1000))] <|
   .leaf 1]],
 [.node [.node [.c (.int .i64 (0)), .c (.int .i64 (0)), .c (.int .i64 (0)), .c (.int .i64 (0)), .c (.int .i64 (0)), .c (.int .i64 (0)), .c (.int .i64 (0)), .c (.int .i64 (0)), .c (.int .i64 (0)), .c (.int .i64 (0)), .c (.int .i64 (0)), .c (.int .i64 (0)), .c (.int .i64 (0)), .c (.int .i64 (0)), .c (.int .i64 (0)), .c (.int .i64 (0)), .c (.int .i64 (0)), .c (.int .i64 (0)), .c (.int .i64 (0)), .c (.int .i64 (0)), .c (.int .i64 (0)), .c (.int .i64 (0)), .c (.int .i64 (0)), .c (.bool false)], .c (.int .u8 (2))], .node [.node [.cell (.v 0) 0, .cell (.v 0) 1, .cell (.v 0) 2, .cell (.v 0) 3, .cell (.v 0) 4, .cell (.v 0) 5, .cell (.v 0) 6, .cell (.v 0) 7, .cell (.v 0) 8, .cell (.v 0) 9, .cell (.v 0) 10, .cell (.v 0) 11, .cell (.v 0) 12, .cell (.v 0) 13, .cell (.v 0) 14, .cell (.v 0) 15, .cell (.v 0) 16, .cell (.v 6) 0, .cell (.v 6) 1, .cell (.v 7) 0, .cell (.v 7) 1, .cell (.v 12) 0, .cell (.v 12) 1, .cell (.v 0) 23], .v 3]], .tup [.node [.e, .e, .e, .e, .e, .e, .e, .e, .e, .e, .e, .e, .e, .e, .e, .e, .e, .e, .e, .e, .e, .e, .e, .e], .e]⟩
def F129 : Fn := ⟨[none, none],
 .op .len [.v 1] <|
 .loop [.c (.int .i64 (0))] (
  .op (.bin .lss) [.v 3, .v 2] <|
  .ite (.v 4) (.op (.idx 2) [.v 1, .v 3] <|
   .op (.elem 0 (some 2)) [.v 1, .v 3] <|
   .blk (
    .op (.bin .lss) [.cell (.v 6) 0, .c (.int .i64 (0))] <|
    .ite (.v 7) (.leaf 0) <|
    .op (.bin .gtr) [.cell (.v 6) 0, .cell (.v 6) 1] <|
    .ite (.v 8) (.leaf 1) <|
    .op (.bin .gtr) [.cell (.v 6) 1, .v 0] <|
    .leaf 2) [([.c (.bool true)], 0), ([.c (.bool true)], 0), ([.v 9], 0)] [.ite (.v 7) (.leaf 0) <|
    .op (.bin .add) [.v 3, .c (.int .i64 (1))] <|
    .leaf 1]) <|
  .leaf 2) [([], some 0), ([.v 8], none), ([], some 1)] [.leaf 0,
  .leaf 1],
 [.c (.bool false), .c (.bool true)], .e⟩
def F130 : Fn := ⟨[none],
 .op .len [.v 0] <|
 .op (.bin .gtr) [.v 1, .c (.int .i64 (6))] <|
 .ite (.v 2) (.leaf 0) <|
 .op .len [.v 0] <|
 .loop [.c (.int .i64 (-1)), .c (.int .i64 (0))] (
  .op (.bin .lss) [.v 5, .v 3] <|
  .ite (.v 6) (.op (.idx 4) [.v 0, .v 5] <|
   .op (.elem 0 (some 4)) [.v 0, .v 5] <|
   .blk (
    .call 115 [.node [.cell (.v 8) 0, .cell (.v 8) 1], .c (.int .i64 (0)), .c (.int .i64 (100000))] <|
    .op (.un .not) [.v 9] <|
    .ite (.v 10) (.leaf 0) <|
    .call 115 [.node [.cell (.v 8) 2, .cell (.v 8) 3], .c (.int .i64 (0)), .c (.int .i64 (100000))] <|
    .op (.un .not) [.v 11] <|
    .ite (.v 12) (.leaf 1) <|
    .op (.bin .gtr) [.cell (.v 8) 0, .cell (.v 8) 3] <|
    .ite (.v 13) (.leaf 2) <|
    .op (.bin .leq) [.cell (.v 8) 0, .v 4] <|
    .leaf 3) [([.c (.bool true)], 0), ([.c (.bool true)], 0), ([.c (.bool true)], 0), ([.v 14], 0)] [.ite (.v 9) (.leaf 0) <|
    .op (.bin .add) [.v 5, .c (.int .i64 (1))] <|
    .leaf 1]) <|
  .leaf 2) [([], some 0), ([.cell (.v 8) 3, .v 10], none), ([], some 1)] [.leaf 1,
  .leaf 2],
 [.c (.bool false), .c (.bool false), .c (.bool true)], .e⟩
def F138 : Fn := ⟨[(some 24), (some 8)],
 .op (.bin .sub) [.cell (.v 1) 2, .c (.int .i64 (20))] <|
 .op (.mx true) [.c (.int .i64 (0)), .v 2] <|
 .op (.bin .sub) [.cell (.v 1) 3, .c (.int .i64 (20))] <|
 .op (.mx true) [.c (.int .i64 (0)), .v 4] <|
 .op (.bin .add) [.c (.int .i64 (100000)), .cell (.v 1) 1] <|
 .op (.bin .mul) [.cell (.v 1) 0, .v 6] <|
 .call 106 [.v 7] <|
 .op (.listOf 2 2 [.int .i64 (0), .int .i64 (0)] [0, 1]) [.cell (.v 0) 4, .cell (.v 0) 5, .v 3, .v 5] <|
 .call 147 [.c (.int .i64 (1)), .v 9] <|
 .flat (.cell (.v 10) 0) <|
 .flat (.cell (.v 10) 1) <|
 .op (.listOf 2 2 [.int .i64 (0), .int .i64 (0)] [0, 1]) [.cell (.v 0) 6, .cell (.v 0) 7, .cell (.v 8) 0, .cell (.v 8) 1] <|
 .call 147 [.c (.int .i64 (100000)), .v 11] <|
 .flat (.cell (.v 12) 0) <|
 .flat (.cell (.v 12) 1) <|
 .op (.listOf 2 3 [.int .i64 (0), .int .i64 (0)] [0, 1, 2]) [.cell (.v 0) 2, .cell (.v 0) 3, .cell (.v 10) 0, .cell (.v 10) 1, .cell (.v 12) 0, .cell (.v 12) 1] <|
 .call 142 [.v 13] <|
 .flat (.cell (.v 14) 0) <|
 .flat (.cell (.v 14) 1) <|
 .blk (
  .ite (.cell (.v 0) 23) (.op (.listOf 2 2 [.int .i64 (0), .int .i64 (0)] [0, 1]) [.cell (.v 14) 0, .cell (.v 14) 1, .cell (.v 0) 12, .cell (.v 0) 13] <|
   .call 142 [.v 15] <|
   .flat (.cell (.v 16) 0) <|
   .flat (.cell (.v 16) 1) <|
   .leaf 0) <|
  .leaf 1) [([.cell (.v 16) 0, .cell (.v 16) 1], 0), ([.cell (.v 14) 0, .cell (.v 14) 1], 0)] [.op (.listOf 2 2 [.int .i64 (0), .int .i64 (0)] [0, 1]) [.cell (.v 0) 8, .cell (.v 0) 9, .cell (.v 8) 0, .cell (.v 8) 1] <|
  .call 147 [.c (.int .i64 (100000)), .v 17] <|
  .flat (.cell (.v 18) 0) <|
  .flat (.cell (.v 18) 1) <|
  .op (.bin .mul) [.cell (.v 1) 0, .cell (.v 1) 1] <|
  .call 106 [.v 19] <|
  .op (.listOf 2 2 [.int .i64 (0), .int .i64 (0)] [0, 1]) [.cell (.v 0) 10, .cell (.v 0) 11, .cell (.v 20) 0, .cell (.v 20) 1] <|
  .call 147 [.c (.int .i64 (1000000)), .v 21] <|
  .flat (.cell (.v 22) 0) <|
  .flat (.cell (.v 22) 1) <|
  .leaf 0],
 [.node [.v 15, .v 16, .cell (.v 18) 0, .cell (.v 18) 1, .cell (.v 22) 0, .cell (.v 22) 1]], .node [.e, .e, .e, .e, .e, .e]⟩
def F139 : Fn := ⟨[(some 2), (some 2), (some 2), none],
 .call 141 [.node [.cell (.v 0) 0, .cell (.v 0) 1], .node [.cell (.v 1) 0, .cell (.v 1) 1]] <|
 .call 140 [.node [.cell (.v 4) 0, .cell (.v 4) 1], .v 3] <|
 .op (.listOf 2 2 [.int .i64 (0), .int .i64 (0)] [0, 1]) [.cell (.v 5) 0, .cell (.v 5) 1, .cell (.v 2) 0, .cell (.v 2) 1] <|
 .call 142 [.v 6] <|
 .flat (.cell (.v 7) 0) <|
 .flat (.cell (.v 7) 1) <|
 .call 140 [.node [.cell (.v 7) 0, .cell (.v 7) 1], .v 3] <|
 .leaf 0,
 [.node [.cell (.v 8) 0, .cell (.v 8) 1]], .node [.e, .e]⟩
def F140 : Fn := ⟨[(some 2), none],
 .op (.mx true) [.cell (.v 0) 0, .c (.int .i64 (0))] <|
 .op (.mx false) [.v 2, .v 1] <|
 .op (.mx true) [.cell (.v 0) 1, .c (.int .i64 (0))] <|
 .op (.mx false) [.v 4, .v 1] <|
 .leaf 0,
 [.node [.v 3, .v 5]], .node [.e, .e]⟩
def F141 : Fn := ⟨[(some 2), (some 2)],
 .op (.bin .sub) [.cell (.v 0) 0, .cell (.v 1) 1] <|
 .op (.bin .sub) [.cell (.v 0) 1, .cell (.v 1) 0] <|
 .leaf 0,
 [.node [.v 2, .v 3]], .node [.e, .e]⟩
def F142 : Fn := ⟨[none],
 .op .len [.v 0] <|
 .loop [.c (.int .i64 (0)), .c (.int .i64 (0)), .c (.int .i64 (0))] (
  .op (.bin .lss) [.v 2, .v 1] <|
  .ite (.v 5) (.op (.idx 2) [.v 0, .v 2] <|
   .op (.elem 0 (some 2)) [.v 0, .v 2] <|
   .op (.bin .add) [.v 3, .cell (.v 7) 0] <|
   .op (.bin .add) [.v 4, .cell (.v 7) 1] <|
   .op (.bin .add) [.v 2, .c (.int .i64 (1))] <|
   .leaf 0) <|
  .leaf 1) [([.v 10, .v 8, .v 9], none), ([.v 3, .v 4], some 0)] [.leaf 0],
 [.node [.v 2, .v 3]], .node [.e, .e]⟩
def F147 : Fn := ⟨[none, none],
 .call 106 [.c (.int .i64 (1))] <|
 .op .len [.v 1] <|
 .loop [.c (.int .i64 (0)), .cell (.v 2) 0, .cell (.v 2) 1] (
  .op (.bin .lss) [.v 4, .v 3] <|
  .ite (.v 7) (.op (.idx 2) [.v 1, .v 4] <|
   .op (.elem 0 (some 2)) [.v 1, .v 4] <|
   .op (.bin .mul) [.v 5, .cell (.v 9) 0] <|
   .op (.bin .mul) [.v 6, .cell (.v 9) 1] <|
   .op (.bin .add) [.v 4, .c (.int .i64 (1))] <|
   .leaf 0) <|
  .leaf 1) [([.v 12, .v 10, .v 11], none), ([.v 5, .v 6], some 0)] [.op (.bin .quo) [.v 4, .v 0] <|
  .op (.bin .add) [.v 5, .v 0] <|
  .op (.bin .sub) [.v 7, .c (.int .i64 (1))] <|
  .op (.bin .quo) [.v 8, .v 0] <|
  .leaf 0],
 [.node [.v 6, .v 9]], .node [.e, .e]⟩
def FN (f : FuncId) : Option Fn :=
  match f with
  | 9 => some F9
  | 15 => some F15
  | 17 => some F17
  | 21 => some F21
  | 28 => some F28
  | 38 => some F38
  | 39 => some F39
  | 40 => some F40
  | 41 => some F41
  | 42 => some F42
  | 43 => some F43
  | 65 => some F65
  | 66 => some F66
  | 67 => some F67
  | 68 => some F68
  | 72 => some F72
  | 73 => some F73
  | 74 => some F74
  | 77 => some F77
  | 89 => some F89
  | 90 => some F90
  | 91 => some F91
  | 92 => some F92
  | 93 => some F93
  | 94 => some F94
  | 97 => some F97
  | 98 => some F98
  | 101 => some F101
  | 102 => some F102
  | 103 => some F103
  | 104 => some F104
  | 105 => some F105
  | 106 => some F106
  | 107 => some F107
  | 109 => some F109
  | 110 => some F110
  | 111 => some F111
  | 112 => some F112
  | 115 => some F115
  | 116 => some F116
  | 117 => some F117
  | 118 => some F118
  | 122 => some F122
  | 123 => some F123
  | 124 => some F124
  | 125 => some F125
  | 127 => some F127
  | 129 => some F129
  | 130 => some F130
  | 138 => some F138
  | 139 => some F139
  | 140 => some F140
  | 141 => some F141
  | 142 => some F142
  | 147 => some F147
  | _ => none
end Go.Q
