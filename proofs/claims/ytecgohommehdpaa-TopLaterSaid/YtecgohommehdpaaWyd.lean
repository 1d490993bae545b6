/- The functions as trees. -/
import Derived.Test.YtecgohommehdpaaJL
import Derived.Test.YtecgohommehdpaaChecked
set_option linter.unusedVariables false
set_option maxRecDepth 100000
namespace Go.Q
open Go.V
open Go.Proofs.Try (prog)
def isRef (f : FuncId) : Bool := [16, 137].contains f
def dmR (f : FuncId) : Nat := ([((0 : FuncId), 0)].find? (·.1 == f)).elim 0 (·.2)
noncomputable def TP : FuncId → Option IFn := fun f => cFnD prog (isRef f) (dmR f) f
theorem cFn_ref {P : Program} {b : Bool} {dm : Nat} {f : FuncId} {fn : IFn} (h : cFnD P b dm f = some fn) : fn.byref = b ∧ fn.dm = dm := by
  unfold cFnD at h
  split at h
  · cases h
  · split at h
    · cases h
    · split at h
      · cases h
      · split at h
        · cases h; exact ⟨rfl, rfl⟩
        · cases h
theorem TP_ok : TOK prog TP := fun f fn h => by
  obtain ⟨h1, h2⟩ := cFn_ref h
  rw [h1, h2]; exact h
theorem mixed : prog.follows .mixedOrders = true := by kernel_rfl
def F4 : Fn := ⟨[(some 2), none, none, (some 2)],
 .call 15 [.node [.cell (.v 0) 0, .cell (.v 0) 1]] <|
 .ite (.v 4) (.leaf 0) <|
 .op (.app 9 72) [.c (.list []), .cell (.v 0) 0] <|
 .op (.app 5 56) [.c (.list []), .cell (.v 0) 1] <|
 .loop [.c (.int .i64 (0)), .v 6] (
  .op .len [.v 8] <|
  .op (.bin .lss) [.v 7, .v 9] <|
  .ite (.v 10) (.op (.idx 5) [.v 8, .v 7] <|
   .op (.elem 4 none) [.v 8, .v 7] <|
   .op (.app 4 32) [.c (.list []), .v 12] <|
   .op (.idx 5) [.v 8, .v 7] <|
   .op (.set 4) [.v 8, .v 7, .v 13] <|
   .op (.bin .add) [.v 7, .c (.int .i64 (1))] <|
   .leaf 0) <|
  .leaf 1) [([.v 16, .v 15], none), ([.v 8], some 0)] [.shal 4 (.node [.v 5, .v 7]) <|
  .call 17 [.node [.v 5, .v 7], .v 1, .node [.cell (.v 3) 0, .cell (.v 3) 1]] <|
  .flat (.cell (.cell (.v 8) 0) 0) <|
  .flat (.cell (.cell (.v 8) 0) 1) <|
  .flat (.cell (.v 8) 1) <|
  .call 18 [.node [.cell (.v 0) 0, .cell (.v 0) 1], .v 1, .node [.cell (.v 3) 0, .cell (.v 3) 1]] <|
  .shal 4 (.node [.v 5, .v 7]) <|
  .call 19 [.node [.v 5, .v 7], .v 1, .v 2, .node [.cell (.v 3) 0, .cell (.v 3) 1]] <|
  .flat (.cell (.cell (.v 10) 0) 0) <|
  .flat (.cell (.cell (.v 10) 0) 1) <|
  .flat (.cell (.v 10) 1) <|
  .call 20 [.node [.cell (.v 0) 0, .cell (.v 0) 1], .v 1, .v 2, .node [.cell (.v 3) 0, .cell (.v 3) 1]] <|
  .blk (
   .shal 4 (.node [.v 5, .v 7]) <|
   .call 21 [.node [.v 5, .v 7]] <|
   .flat (.v 12) <|
   .call 22 [.node [.cell (.v 0) 0, .cell (.v 0) 1]] <|
   .op (.bin .eql) [.v 12, .v 13] <|
   .ite (.v 14) (.op (.eqv false [false, false]) [.cell (.cell (.v 8) 0) 0, .cell (.cell (.v 8) 0) 1, .cell (.cell (.v 9) 0) 0, .cell (.cell (.v 9) 0) 1] <|
    .ite (.v 15) (.op (.bin .eql) [.cell (.v 8) 1, .cell (.v 9) 1] <|
     .ite (.v 16) (.op (.eqv false [false, false]) [.cell (.cell (.v 10) 0) 0, .cell (.cell (.v 10) 0) 1, .cell (.cell (.v 11) 0) 0, .cell (.cell (.v 11) 0) 1] <|
      .ite (.v 17) (.op (.bin .eql) [.cell (.v 10) 1, .cell (.v 11) 1] <|
       .ite (.v 18) (.shal 4 (.node [.v 5, .v 7]) <|
        .call 23 [.node [.v 5, .v 7], .node [.cell (.v 0) 0, .cell (.v 0) 1]] <|
        .flat (.v 19) <|
        .leaf 0) <|
       .leaf 1) <|
      .leaf 2) <|
     .leaf 3) <|
    .leaf 4) <|
   .leaf 5) [([.v 19], 0), ([.c (.bool false)], 0), ([.c (.bool false)], 0), ([.c (.bool false)], 0), ([.c (.bool false)], 0), ([.c (.bool false)], 0)] [.leaf 1]],
 [.c (.bool true), .v 12], .e⟩
def F10 : Fn := ⟨[(some 2), none, none, (some 2), none, (some 17), none, none],
 .call 38 [] <|
 .op (.un .not) [.v 8] <|
 .ite (.v 9) (.leaf 0) <|
 .blk (
  .call 15 [.node [.cell (.v 0) 0, .cell (.v 0) 1]] <|
  .ite (.v 10) (.leaf 0) <|
  .op .len [.v 4] <|
  .op (.bin .gtr) [.v 11, .c (.int .i64 (24))] <|
  .ite (.v 12) (.leaf 1) <|
  .op .len [.v 6] <|
  .op (.bin .gtr) [.v 13, .c (.int .i64 (30))] <|
  .leaf 2) [([.c (.bool true)], 0), ([.c (.bool true)], 0), ([.v 14], 0)] [.ite (.v 10) (.leaf 1) <|
  .call 28 [.node [.cell (.v 0) 0, .cell (.v 0) 1], .v 1, .v 2, .node [.cell (.v 3) 0, .cell (.v 3) 1], .v 4] <|
  .call 44 [.node [.cell (.v 5) 0, .cell (.v 5) 1, .cell (.v 5) 2, .cell (.v 5) 3, .cell (.v 5) 4, .cell (.v 5) 5, .cell (.v 5) 6, .cell (.v 5) 7, .cell (.v 5) 8, .cell (.v 5) 9, .cell (.v 5) 10, .cell (.v 5) 11, .cell (.v 5) 12, .cell (.v 5) 13, .cell (.v 5) 14, .cell (.v 5) 15, .cell (.v 5) 16], .v 6] <|
  .blk (
   .op (.bin .neq) [.cell (.v 11) 2, .c (.int .i64 (0))] <|
   .ite (.v 13) (.leaf 0) <|
   .op (.bin .neq) [.cell (.v 12) 1, .c (.int .i64 (0))] <|
   .leaf 1) [([.c (.bool true)], 0), ([.v 14], 0)] [.ite (.v 13) (.leaf 2) <|
   .op .len [.cell (.v 11) 0] <|
   .loop [.c (.int .i64 (0))] (
    .op (.bin .lss) [.v 15, .v 14] <|
    .ite (.v 16) (.blk (
      .op (.idx 6) [.cell (.v 11) 0, .v 15] <|
      .op (.elem 0 (some 6)) [.cell (.v 11) 0, .v 15] <|
      .blk (
       .op (.bin .lss) [.cell (.v 18) 4, .c (.int .i64 (0))] <|
       .ite (.v 19) (.leaf 0) <|
       .op (.bin .gtr) [.cell (.v 18) 4, .cell (.v 18) 5] <|
       .ite (.v 20) (.leaf 1) <|
       .op (.bin .gtr) [.cell (.v 18) 5, .c (.int .i64 (100000))] <|
       .leaf 2) [([.c (.bool true)], 0), ([.c (.bool true)], 0), ([.v 21], 0)] [.ite (.v 19) (.leaf 0) <|
       .op (.conv .u32) [.v 15] <|
       .op (.bin .add) [.v 7, .v 20] <|
       .call 45 [.node [.cell (.v 18) 4, .cell (.v 18) 5], .v 21] <|
       .call 35 [.node [.cell (.v 0) 0, .cell (.v 0) 1], .cell (.v 18) 1, .c (.list []), .cell (.v 18) 4] <|
       .call 35 [.node [.cell (.v 0) 0, .cell (.v 0) 1], .cell (.v 18) 1, .c (.list []), .v 22] <|
       .blk (
        .op (.bin .neq) [.cell (.v 23) 2, .c (.int .i64 (0))] <|
        .ite (.v 25) (.leaf 0) <|
        .op (.bin .neq) [.cell (.v 24) 2, .c (.int .i64 (0))] <|
        .ite (.v 26) (.leaf 1) <|
        .op (.bin .lss) [.cell (.cell (.v 24) 0) 0, .cell (.cell (.v 23) 0) 0] <|
        .ite (.v 27) (.leaf 2) <|
        .op (.bin .lss) [.cell (.cell (.v 24) 0) 1, .cell (.cell (.v 23) 0) 1] <|
        .leaf 3) [([.c (.bool true)], 0), ([.c (.bool true)], 0), ([.c (.bool true)], 0), ([.v 28], 0)] [.ite (.v 25) (.leaf 1) <|
        .op (.bin .gtr) [.cell (.cell (.v 12) 0) 1, .cell (.cell (.v 23) 0) 0] <|
        .ite (.v 26) (.leaf 2) <|
        .op (.listOf 3 1 [.int .i64 (0), .int .i64 (0), .int .i64 (0)] [0]) [.cell (.v 18) 1, .v 22, .cell (.cell (.v 12) 0) 1] <|
        .op (.bin .add) [.v 22, .c (.int .i64 (1))] <|
        .op (.mx false) [.v 28, .c (.int .i64 (100000))] <|
        .call 35 [.node [.cell (.v 0) 0, .cell (.v 0) 1], .cell (.v 18) 1, .v 27, .v 29] <|
        .flat (.cell (.cell (.v 30) 0) 0) <|
        .flat (.cell (.cell (.v 30) 0) 1) <|
        .flat (.cell (.v 30) 1) <|
        .flat (.cell (.v 30) 2) <|
        .blk (
         .op (.bin .neq) [.cell (.v 30) 2, .c (.int .i64 (0))] <|
         .ite (.v 31) (.leaf 0) <|
         .op (.bin .lss) [.cell (.cell (.v 30) 0) 0, .c (.int .i64 (0))] <|
         .ite (.v 32) (.leaf 1) <|
         .op (.bin .lss) [.v 22, .c (.int .i64 (100000))] <|
         .ite (.v 33) (.op (.bin .sub) [.cell (.cell (.v 24) 0) 0, .cell (.cell (.v 12) 0) 1] <|
          .op (.bin .lss) [.cell (.cell (.v 30) 0) 0, .v 34] <|
          .leaf 2) <|
         .leaf 3) [([.c (.bool true)], 0), ([.c (.bool true)], 0), ([.v 35], 0), ([.c (.bool false)], 0)] [.ite (.v 31) (.leaf 3) <|
         .leaf 4]]]) [([], 0), ([], 0), ([], 1), ([], 0), ([], 1)] [.leaf 0,
      .op (.bin .add) [.v 15, .c (.int .i64 (1))] <|
      .leaf 1]) <|
    .leaf 2) [([], some 0), ([.v 17], none), ([], some 1)] [.leaf 3,
    .leaf 4]]],
 [.c (.bool false), .v 8, .v 8, .c (.bool false), .v 8], .e⟩
def F15 : Fn := ⟨[(some 2)],
 .blk (
  .op .len [.cell (.v 0) 0] <|
  .op (.bin .gtr) [.v 1, .c (.int .i64 (20))] <|
  .ite (.v 2) (.leaf 0) <|
  .op .len [.cell (.v 0) 1] <|
  .op (.bin .gtr) [.v 3, .c (.int .i64 (40))] <|
  .leaf 1) [([.c (.bool true)], 0), ([.v 4], 0)] [.ite (.v 1) (.leaf 0) <|
  .loop [.c (.int .i64 (0))] (
   .op .len [.cell (.v 0) 1] <|
   .op (.bin .lss) [.v 2, .v 3] <|
   .ite (.v 4) (.op (.idx 5) [.cell (.v 0) 1, .v 2] <|
    .op (.elem 4 none) [.cell (.v 0) 1, .v 2] <|
    .op .len [.v 6] <|
    .op (.bin .gtr) [.v 7, .c (.int .i64 (20))] <|
    .ite (.v 8) (.leaf 0) <|
    .op (.bin .add) [.v 2, .c (.int .i64 (1))] <|
    .leaf 1) <|
   .leaf 2) [([], some 0), ([.v 9], none), ([], some 1)] [.leaf 1,
   .leaf 2]],
 [.c (.bool true), .c (.bool true), .c (.bool false)], .e⟩
def F17 : Fn := ⟨[(some 2), none, (some 2)],
 .call 65 [.node [.cell (.v 0) 0, .cell (.v 0) 1], .node [.cell (.v 2) 0, .cell (.v 2) 1]] <|
 .op (.bin .neq) [.cell (.v 3) 1, .c (.int .i64 (0))] <|
 .ite (.v 4) (.leaf 0) <|
 .call 66 [.v 1, .cell (.v 0) 1] <|
 .op (.un .not) [.v 5] <|
 .ite (.v 6) (.leaf 1) <|
 .call 67 [.node [.cell (.cell (.v 3) 0) 0, .cell (.cell (.v 3) 0) 1, .cell (.cell (.v 3) 0) 2, .cell (.cell (.v 3) 0) 3, .cell (.cell (.v 3) 0) 4, .cell (.cell (.v 3) 0) 5, .cell (.cell (.v 3) 0) 6], .v 1] <|
 .call 68 [.node [.cell (.v 7) 0, .cell (.v 7) 1]] <|
 .leaf 2,
 [.node [.node [.c (.int .i64 (0)), .c (.int .i64 (0))], .cell (.v 3) 1], .node [.node [.c (.int .i64 (0)), .c (.int .i64 (0))], .c (.int .i64 (2))], .node [.node [.cell (.v 8) 0, .cell (.v 8) 1], .c (.int .i64 (0))]], .tup [.node [.e, .e], .e]⟩
def F18 : Fn := ⟨[(some 2), none, (some 2)],
 .call 69 [.node [.cell (.v 0) 0, .cell (.v 0) 1], .node [.cell (.v 2) 0, .cell (.v 2) 1]] <|
 .op (.bin .neq) [.v 3, .c (.int .i64 (0))] <|
 .ite (.v 4) (.leaf 0) <|
 .op .len [.cell (.v 0) 1] <|
 .op (.bin .sub) [.v 5, .c (.int .i64 (1))] <|
 .call 70 [.v 1, .c (.int .i64 (0)), .v 6] <|
 .op (.un .not) [.v 7] <|
 .ite (.v 8) (.leaf 1) <|
 .op (.idx 5) [.cell (.v 0) 1, .v 1] <|
 .op (.elem 0 (some 5)) [.cell (.v 0) 1, .v 1] <|
 .call 71 [.node [.cell (.v 10) 0, .cell (.v 10) 1, .cell (.v 10) 2, .cell (.v 10) 3, .cell (.v 10) 4], .node [.cell (.v 2) 0, .cell (.v 2) 1]] <|
 .leaf 2,
 [.node [.node [.c (.int .i64 (0)), .c (.int .i64 (0))], .v 3], .node [.node [.c (.int .i64 (0)), .c (.int .i64 (0))], .c (.int .i64 (2))], .node [.node [.cell (.v 11) 0, .cell (.v 11) 1], .c (.int .i64 (0))]], .tup [.node [.e, .e], .e]⟩
def F19 : Fn := ⟨[(some 2), none, none, (some 2)],
 .call 65 [.node [.cell (.v 0) 0, .cell (.v 0) 1], .node [.cell (.v 3) 0, .cell (.v 3) 1]] <|
 .op (.bin .neq) [.cell (.v 4) 1, .c (.int .i64 (0))] <|
 .ite (.v 5) (.leaf 0) <|
 .blk (
  .call 66 [.v 1, .cell (.v 0) 1] <|
  .op (.un .not) [.v 6] <|
  .ite (.v 7) (.leaf 0) <|
  .call 72 [.v 2] <|
  .op (.un .not) [.v 8] <|
  .leaf 1) [([.c (.bool true)], 0), ([.v 9], 0)] [.ite (.v 6) (.leaf 1) <|
  .call 74 [.v 2] <|
  .call 73 [.node [.cell (.cell (.v 4) 0) 0, .cell (.cell (.v 4) 0) 1, .cell (.cell (.v 4) 0) 2, .cell (.cell (.v 4) 0) 3, .cell (.cell (.v 4) 0) 4, .cell (.cell (.v 4) 0) 5, .cell (.cell (.v 4) 0) 6], .v 1, .node [.cell (.v 7) 0, .cell (.v 7) 1]] <|
  .call 68 [.node [.cell (.v 8) 0, .cell (.v 8) 1]] <|
  .leaf 2],
 [.node [.node [.c (.int .i64 (0)), .c (.int .i64 (0))], .cell (.v 4) 1], .node [.node [.c (.int .i64 (0)), .c (.int .i64 (0))], .c (.int .i64 (2))], .node [.node [.cell (.v 9) 0, .cell (.v 9) 1], .c (.int .i64 (0))]], .tup [.node [.e, .e], .e]⟩
def F20 : Fn := ⟨[(some 2), none, none, (some 2)],
 .call 69 [.node [.cell (.v 0) 0, .cell (.v 0) 1], .node [.cell (.v 3) 0, .cell (.v 3) 1]] <|
 .op (.bin .neq) [.v 4, .c (.int .i64 (0))] <|
 .ite (.v 5) (.leaf 0) <|
 .blk (
  .op .len [.cell (.v 0) 1] <|
  .op (.bin .sub) [.v 6, .c (.int .i64 (1))] <|
  .call 70 [.v 1, .c (.int .i64 (0)), .v 7] <|
  .op (.un .not) [.v 8] <|
  .ite (.v 9) (.leaf 0) <|
  .call 70 [.v 2, .c (.int .i64 (0)), .c (.int .i64 (100000))] <|
  .op (.un .not) [.v 10] <|
  .leaf 1) [([.c (.bool true)], 0), ([.v 11], 0)] [.ite (.v 6) (.leaf 1) <|
  .op (.idx 5) [.cell (.v 0) 1, .v 1] <|
  .op (.elem 0 (some 5)) [.cell (.v 0) 1, .v 1] <|
  .call 75 [.node [.cell (.v 8) 0, .cell (.v 8) 1, .cell (.v 8) 2, .cell (.v 8) 3, .cell (.v 8) 4], .v 2, .node [.cell (.v 3) 0, .cell (.v 3) 1]] <|
  .op (.idx 5) [.cell (.v 0) 1, .v 1] <|
  .op (.elem 0 (some 5)) [.cell (.v 0) 1, .v 1] <|
  .call 76 [.node [.cell (.v 11) 0, .cell (.v 11) 1, .cell (.v 11) 2, .cell (.v 11) 3, .cell (.v 11) 4], .v 2, .node [.cell (.v 3) 0, .cell (.v 3) 1]] <|
  .leaf 2],
 [.node [.node [.c (.int .i64 (0)), .c (.int .i64 (0))], .v 4], .node [.node [.c (.int .i64 (0)), .c (.int .i64 (0))], .c (.int .i64 (2))], .node [.node [.v 9, .v 12], .c (.int .i64 (0))]], .tup [.node [.e, .e], .e]⟩
def F21 : Fn := ⟨[(some 2)],
 .call 77 [.node [.cell (.v 0) 0, .cell (.v 0) 1]] <|
 .op (.un .not) [.v 1] <|
 .ite (.v 2) (.leaf 0) <|
 .leaf 1,
 [.c (.int .i64 (30)), .c (.int .i64 (0))], .e⟩
def F22 : Fn := ⟨[(some 2)],
 .call 78 [.node [.cell (.v 0) 0, .cell (.v 0) 1]] <|
 .op (.un .not) [.v 1] <|
 .ite (.v 2) (.leaf 0) <|
 .leaf 1,
 [.c (.int .i64 (30)), .c (.int .i64 (0))], .e⟩
def F23 : Fn := ⟨[(some 2), (some 2)],
 .blk (
  .op .len [.cell (.v 0) 0] <|
  .op .len [.cell (.v 1) 0] <|
  .op (.bin .neq) [.v 2, .v 3] <|
  .ite (.v 4) (.leaf 0) <|
  .op .len [.cell (.v 0) 1] <|
  .op .len [.cell (.v 1) 1] <|
  .op (.bin .neq) [.v 5, .v 6] <|
  .leaf 1) [([.c (.bool true)], 0), ([.v 7], 0)] [.ite (.v 2) (.leaf 0) <|
  .loop [.c (.int .i64 (0))] (
   .op .len [.cell (.v 0) 0] <|
   .op (.bin .lss) [.v 3, .v 4] <|
   .ite (.v 5) (.op (.idx 9) [.cell (.v 0) 0, .v 3] <|
    .op (.elem 0 (some 9)) [.cell (.v 0) 0, .v 3] <|
    .op (.idx 9) [.cell (.v 1) 0, .v 3] <|
    .op (.elem 0 (some 9)) [.cell (.v 1) 0, .v 3] <|
    .op (.eqv true [false, false, false, false, false, false, false, false, false]) [.cell (.v 7) 0, .cell (.v 7) 1, .cell (.v 7) 2, .cell (.v 7) 3, .cell (.v 7) 4, .cell (.v 7) 5, .cell (.v 7) 6, .cell (.v 7) 7, .cell (.v 7) 8, .cell (.v 9) 0, .cell (.v 9) 1, .cell (.v 9) 2, .cell (.v 9) 3, .cell (.v 9) 4, .cell (.v 9) 5, .cell (.v 9) 6, .cell (.v 9) 7, .cell (.v 9) 8] <|
    .ite (.v 10) (.leaf 0) <|
    .op (.bin .add) [.v 3, .c (.int .i64 (1))] <|
    .leaf 1) <|
   .leaf 2) [([], some 0), ([.v 11], none), ([], some 1)] [.leaf 1,
   .loop [.c (.int .i64 (0))] (
    .op .len [.cell (.v 0) 1] <|
    .op (.bin .lss) [.v 3, .v 4] <|
    .ite (.v 5) (.blk (
      .op (.idx 5) [.cell (.v 0) 1, .v 3] <|
      .op (.elem 0 (some 5)) [.cell (.v 0) 1, .v 3] <|
      .op (.idx 5) [.cell (.v 1) 1, .v 3] <|
      .op (.elem 0 (some 5)) [.cell (.v 1) 1, .v 3] <|
      .blk (
       .op (.bin .neq) [.cell (.v 7) 0, .cell (.v 9) 0] <|
       .ite (.v 10) (.leaf 0) <|
       .op (.bin .neq) [.cell (.v 7) 1, .cell (.v 9) 1] <|
       .ite (.v 11) (.leaf 1) <|
       .op (.eqv true [false, false]) [.cell (.v 7) 2, .cell (.v 7) 3, .cell (.v 9) 2, .cell (.v 9) 3] <|
       .ite (.v 12) (.leaf 2) <|
       .op .len [.cell (.v 7) 4] <|
       .op .len [.cell (.v 9) 4] <|
       .op (.bin .neq) [.v 13, .v 14] <|
       .leaf 3) [([.c (.bool true)], 0), ([.c (.bool true)], 0), ([.c (.bool true)], 0), ([.v 15], 0)] [.ite (.v 10) (.leaf 0) <|
       .loop [.c (.int .i64 (0))] (
        .op .len [.cell (.v 7) 4] <|
        .op (.bin .lss) [.v 11, .v 12] <|
        .ite (.v 13) (.op (.idx 4) [.cell (.v 7) 4, .v 11] <|
         .op (.elem 0 (some 4)) [.cell (.v 7) 4, .v 11] <|
         .op (.idx 4) [.cell (.v 9) 4, .v 11] <|
         .op (.elem 0 (some 4)) [.cell (.v 9) 4, .v 11] <|
         .op (.eqv true [false, false, false, false]) [.cell (.v 15) 0, .cell (.v 15) 1, .cell (.v 15) 2, .cell (.v 15) 3, .cell (.v 17) 0, .cell (.v 17) 1, .cell (.v 17) 2, .cell (.v 17) 3] <|
         .ite (.v 18) (.leaf 0) <|
         .op (.bin .add) [.v 11, .c (.int .i64 (1))] <|
         .leaf 1) <|
        .leaf 2) [([], some 0), ([.v 19], none), ([], some 1)] [.leaf 1,
        .leaf 2]]) [([], 0), ([], 0), ([], 1)] [.leaf 0,
      .op (.bin .add) [.v 3, .c (.int .i64 (1))] <|
      .leaf 1]) <|
    .leaf 2) [([], some 0), ([.v 6], none), ([], some 1)] [.leaf 2,
    .leaf 3]]],
 [.c (.bool false), .c (.bool false), .c (.bool false), .c (.bool true)], .e⟩
def F28 : Fn := ⟨[(some 2), none, none, (some 2), none],
 .call 89 [.node [.cell (.v 0) 0, .cell (.v 0) 1], .v 1, .v 2, .node [.cell (.v 3) 0, .cell (.v 3) 1]] <|
 .op (.bin .neq) [.cell (.v 5) 1, .c (.int .i64 (0))] <|
 .ite (.v 6) (.leaf 0) <|
 .op .len [.v 4] <|
 .op (.bin .gtr) [.v 7, .c (.int .i64 (24))] <|
 .ite (.v 8) (.leaf 1) <|
 .call 90 [.node [.cell (.cell (.v 5) 0) 0, .cell (.cell (.v 5) 0) 1, .cell (.cell (.v 5) 0) 2, .cell (.cell (.v 5) 0) 3, .cell (.cell (.v 5) 0) 4, .cell (.cell (.v 5) 0) 5, .cell (.cell (.v 5) 0) 6], .v 4] <|
 .ite (.cell (.v 9) 1) (.leaf 2) <|
 .op .len [.v 4] <|
 .loop [.c (.int .i64 (0)), .c (.list []), .cell (.cell (.v 5) 0) 0, .cell (.cell (.v 5) 0) 1, .cell (.cell (.v 5) 0) 2, .cell (.cell (.v 5) 0) 3, .cell (.cell (.v 5) 0) 4, .cell (.cell (.v 5) 0) 5, .cell (.cell (.v 5) 0) 6] (
  .op (.bin .lss) [.v 11, .v 10] <|
  .ite (.v 20) (.op (.idx 1) [.v 4, .v 11] <|
   .op (.elem 0 none) [.v 4, .v 11] <|
   .call 91 [.node [.v 13, .v 14, .v 15, .v 16, .v 17, .v 18, .v 19], .v 22] <|
   .op (.un .not) [.cell (.v 23) 1] <|
   .ite (.v 24) (.leaf 0) <|
   .call 92 [.v 12, .node [.cell (.cell (.v 23) 0) 0, .cell (.cell (.v 23) 0) 1, .cell (.cell (.v 23) 0) 2, .cell (.cell (.v 23) 0) 3, .cell (.cell (.v 23) 0) 4, .cell (.cell (.v 23) 0) 5]] <|
   .shal 1 (.v 25) <|
   .call 93 [.node [.v 13, .v 14, .v 15, .v 16, .v 17, .v 18, .v 19], .node [.cell (.cell (.v 23) 0) 0, .cell (.cell (.v 23) 0) 1, .cell (.cell (.v 23) 0) 2, .cell (.cell (.v 23) 0) 3, .cell (.cell (.v 23) 0) 4, .cell (.cell (.v 23) 0) 5]] <|
   .op (.bin .add) [.v 11, .c (.int .i64 (1))] <|
   .leaf 1) <|
  .leaf 2) [([.v 11], some 0), ([.v 27, .v 25, .cell (.v 26) 0, .cell (.v 26) 1, .cell (.v 26) 2, .cell (.v 26) 3, .cell (.v 26) 4, .cell (.v 26) 5, .cell (.v 26) 6], none), ([.v 12], some 1)] [.leaf 3,
  .leaf 4],
 [.node [.c (.list []), .c (.int .i64 (0)), .cell (.v 5) 1], .node [.c (.list []), .c (.int .i64 (0)), .c (.int .i64 (4))], .node [.c (.list []), .cell (.v 9) 0, .c (.int .i64 (8))], .node [.c (.list []), .v 11, .c (.int .i64 (34))], .node [.v 11, .c (.int .i64 (0)), .c (.int .i64 (0))]], .tup [.own 6, .e, .e]⟩
def F35 : Fn := ⟨[(some 2), none, none, none],
 .call 21 [.node [.cell (.v 0) 0, .cell (.v 0) 1]] <|
 .op (.bin .neq) [.v 4, .c (.int .i64 (0))] <|
 .ite (.v 5) (.leaf 0) <|
 .blk (
  .call 94 [.v 1, .cell (.v 0) 0] <|
  .op (.un .not) [.v 6] <|
  .ite (.v 7) (.leaf 0) <|
  .call 72 [.v 3] <|
  .op (.un .not) [.v 8] <|
  .leaf 1) [([.c (.bool true)], 0), ([.v 9], 0)] [.ite (.v 6) (.leaf 1) <|
  .op .len [.v 2] <|
  .op (.bin .gtr) [.v 7, .c (.int .i64 (200))] <|
  .ite (.v 8) (.leaf 2) <|
  .call 95 [.v 2, .cell (.v 0) 0] <|
  .op (.un .not) [.v 9] <|
  .ite (.v 10) (.leaf 3) <|
  .op (.idx 9) [.cell (.v 0) 0, .v 1] <|
  .op (.elem 0 (some 9)) [.cell (.v 0) 0, .v 1] <|
  .op .len [.v 2] <|
  .loop [.c (.int .i64 (0)), .c (.int .i64 (0)), .cell (.v 12) 6, .cell (.v 12) 7] (
   .op (.bin .lss) [.v 15, .v 13] <|
   .ite (.v 18) (.blk (
     .op (.idx 3) [.v 2, .v 15] <|
     .op (.elem 0 (some 3)) [.v 2, .v 15] <|
     .blk (
      .op (.bin .neq) [.cell (.v 20) 0, .v 1] <|
      .ite (.v 21) (.leaf 0) <|
      .op (.bin .geq) [.cell (.v 20) 1, .v 3] <|
      .leaf 1) [([.c (.bool true)], 0), ([.v 22], 0)] [.ite (.v 21) (.leaf 0) <|
      .op (.bin .add) [.cell (.v 20) 1, .c (.int .i64 (1))] <|
      .op (.bin .sub) [.v 22, .v 14] <|
      .call 96 [.node [.cell (.v 12) 0, .cell (.v 12) 1, .cell (.v 12) 2, .cell (.v 12) 3, .cell (.v 12) 4, .cell (.v 12) 5, .v 16, .v 17, .cell (.v 12) 8], .v 23] <|
      .op (.bin .add) [.cell (.v 20) 1, .c (.int .i64 (1))] <|
      .op (.bin .gtr) [.cell (.v 20) 2, .cell (.v 24) 1] <|
      .ite (.v 26) (.leaf 1) <|
      .op (.bin .sub) [.cell (.v 24) 0, .cell (.v 20) 2] <|
      .op (.mx true) [.c (.int .i64 (0)), .v 27] <|
      .op (.bin .sub) [.cell (.v 24) 1, .cell (.v 20) 2] <|
      .leaf 2]) [([.v 14, .v 16, .v 17], 0), ([], 1), ([.v 25, .v 28, .v 29], 0)] [.op (.bin .add) [.v 15, .c (.int .i64 (1))] <|
     .leaf 0,
     .leaf 1]) <|
   .leaf 2) [([.v 19, .v 22, .v 20, .v 21], none), ([.v 15], some 0), ([.v 14, .v 16, .v 17], some 1)] [.leaf 4,
   .op (.bin .sub) [.v 3, .v 14] <|
   .call 96 [.node [.cell (.v 12) 0, .cell (.v 12) 1, .cell (.v 12) 2, .cell (.v 12) 3, .cell (.v 12) 4, .cell (.v 12) 5, .v 15, .v 16, .cell (.v 12) 8], .v 17] <|
   .leaf 5]],
 [.node [.node [.c (.int .i64 (0)), .c (.int .i64 (0))], .c (.int .i64 (0)), .v 4], .node [.node [.c (.int .i64 (0)), .c (.int .i64 (0))], .c (.int .i64 (0)), .c (.int .i64 (2))], .node [.node [.c (.int .i64 (0)), .c (.int .i64 (0))], .c (.int .i64 (0)), .c (.int .i64 (4))], .node [.node [.c (.int .i64 (0)), .c (.int .i64 (0))], .c (.int .i64 (0)), .c (.int .i64 (32))], .node [.node [.c (.int .i64 (0)), .c (.int .i64 (0))], .v 14, .c (.int .i64 (33))], .node [.node [.cell (.v 18) 0, .cell (.v 18) 1], .c (.int .i64 (0)), .c (.int .i64 (0))]], .tup [.node [.e, .e], .e, .e]⟩
def F38 : Fn := ⟨[],
 .leaf 0,
 [.c (.bool true)], .e⟩
def F44 : Fn := ⟨[(some 17), none],
 .call 111 [.node [.cell (.v 0) 0, .cell (.v 0) 1, .cell (.v 0) 2, .cell (.v 0) 3, .cell (.v 0) 4, .cell (.v 0) 5, .cell (.v 0) 6, .cell (.v 0) 7, .cell (.v 0) 8, .cell (.v 0) 9, .cell (.v 0) 10, .cell (.v 0) 11, .cell (.v 0) 12, .cell (.v 0) 13, .cell (.v 0) 14, .cell (.v 0) 15, .cell (.v 0) 16]] <|
 .op (.bin .neq) [.v 2, .c (.int .i64 (0))] <|
 .ite (.v 3) (.leaf 0) <|
 .op .len [.v 1] <|
 .op (.bin .gtr) [.v 4, .c (.int .i64 (30))] <|
 .ite (.v 5) (.leaf 1) <|
 .op .len [.v 1] <|
 .loop [.c (.int .i64 (0)), .c (.int .i64 (0)), .c (.int .i64 (0))] (
  .op (.bin .lss) [.v 7, .v 6] <|
  .ite (.v 10) (.op (.idx 7) [.v 1, .v 7] <|
   .op (.elem 0 (some 7)) [.v 1, .v 7] <|
   .call 112 [.node [.cell (.v 0) 0, .cell (.v 0) 1, .cell (.v 0) 2, .cell (.v 0) 3, .cell (.v 0) 4, .cell (.v 0) 5, .cell (.v 0) 6, .cell (.v 0) 7, .cell (.v 0) 8, .cell (.v 0) 9, .cell (.v 0) 10, .cell (.v 0) 11, .cell (.v 0) 12, .cell (.v 0) 13, .cell (.v 0) 14, .cell (.v 0) 15, .cell (.v 0) 16], .node [.cell (.v 12) 0, .cell (.v 12) 1, .cell (.v 12) 2, .cell (.v 12) 3, .cell (.v 12) 4, .cell (.v 12) 5, .cell (.v 12) 6]] <|
   .op (.bin .neq) [.v 13, .c (.int .i64 (0))] <|
   .ite (.v 14) (.leaf 0) <|
   .op (.bin .sub) [.cell (.v 0) 0, .cell (.v 12) 1] <|
   .op (.bin .add) [.v 8, .v 15] <|
   .op (.bin .sub) [.cell (.v 0) 0, .cell (.v 12) 0] <|
   .op (.bin .add) [.v 9, .v 17] <|
   .op (.bin .add) [.v 7, .c (.int .i64 (1))] <|
   .leaf 1) <|
  .leaf 2) [([.v 13], some 0), ([.v 19, .v 16, .v 18], none), ([.v 8, .v 9], some 1)] [.leaf 2,
  .leaf 3],
 [.node [.node [.c (.int .i64 (0)), .c (.int .i64 (0))], .v 2], .node [.node [.c (.int .i64 (0)), .c (.int .i64 (0))], .c (.int .i64 (4))], .node [.node [.c (.int .i64 (0)), .c (.int .i64 (0))], .v 7], .node [.node [.v 7, .v 8], .c (.int .i64 (0))]], .tup [.node [.e, .e], .e]⟩
def F45 : Fn := ⟨[(some 2), none],
 .op (.conv .i64) [.v 1] <|
 .op (.bin .sub) [.cell (.v 0) 1, .cell (.v 0) 0] <|
 .op (.bin .add) [.v 3, .c (.int .i64 (1))] <|
 .op (.bin .rem) [.v 2, .v 4] <|
 .op (.bin .add) [.cell (.v 0) 0, .v 5] <|
 .leaf 0,
 [.v 6], .e⟩
def F65 : Fn := ⟨[(some 2), (some 2)],
 .call 21 [.node [.cell (.v 0) 0, .cell (.v 0) 1]] <|
 .op (.bin .neq) [.v 2, .c (.int .i64 (0))] <|
 .ite (.v 3) (.leaf 0) <|
 .call 115 [.node [.cell (.v 1) 0, .cell (.v 1) 1], .c (.int .i64 (1)), .c (.int .i64 (100000))] <|
 .op (.un .not) [.v 4] <|
 .ite (.v 5) (.leaf 1) <|
 .leaf 2,
 [.node [.node [.c (.list []), .c (.list []), .c (.int .i64 (0)), .c (.int .i64 (0)), .c (.int .i64 (0)), .c (.int .i64 (0)), .c (.int .i64 (0))], .v 2], .node [.node [.c (.list []), .c (.list []), .c (.int .i64 (0)), .c (.int .i64 (0)), .c (.int .i64 (0)), .c (.int .i64 (0)), .c (.int .i64 (0))], .c (.int .i64 (31))], .node [.node [.cell (.v 0) 0, .cell (.v 0) 1, .cell (.v 1) 0, .cell (.v 1) 1, .c (.int .i64 (0)), .c (.int .i64 (0)), .c (.int .i64 (0))], .c (.int .i64 (0))]], .tup [.node [.e, .e, .e, .e, .e, .e, .e], .e]⟩
def F66 : Fn := ⟨[none, none],
 .op .len [.v 1] <|
 .op (.bin .sub) [.v 2, .c (.int .i64 (1))] <|
 .call 97 [.v 0, .c (.int .i64 (0)), .v 3] <|
 .leaf 0,
 [.v 4], .e⟩
def F67 : Fn := ⟨[(some 7), none],
 .op (.idx 5) [.cell (.v 0) 1, .v 1] <|
 .op (.elem 2 (some 2)) [.cell (.v 0) 1, .v 1] <|
 .call 98 [.cell (.v 3) 0, .cell (.v 0) 3] <|
 .call 98 [.cell (.v 3) 1, .cell (.v 0) 2] <|
 .leaf 0,
 [.node [.v 4, .v 5]], .node [.e, .e]⟩
def F68 : Fn := ⟨[(some 2)],
 .leaf 0,
 [.node [.cell (.v 0) 0, .cell (.v 0) 1]], .node [.e, .e]⟩
def F69 : Fn := ⟨[(some 2), (some 2)],
 .call 78 [.node [.cell (.v 0) 0, .cell (.v 0) 1]] <|
 .op (.un .not) [.v 2] <|
 .ite (.v 3) (.leaf 0) <|
 .call 88 [.node [.cell (.v 1) 0, .cell (.v 1) 1]] <|
 .op (.un .not) [.v 4] <|
 .ite (.v 5) (.leaf 1) <|
 .leaf 2,
 [.c (.int .i64 (30)), .c (.int .i64 (31)), .c (.int .i64 (0))], .e⟩
def F70 : Fn := ⟨[none, none, none],
 .blk (
  .op (.bin .geq) [.v 0, .v 1] <|
  .ite (.v 3) (.op (.bin .leq) [.v 0, .v 2] <|
   .leaf 0) <|
  .leaf 1) [([.v 4], 0), ([.c (.bool false)], 0)] [.leaf 0],
 [.v 3], .e⟩
def F71 : Fn := ⟨[(some 5), (some 2)],
 .op (.bin .add) [.cell (.v 0) 2, .cell (.v 1) 1] <|
 .op (.bin .sub) [.v 2, .c (.int .i64 (1))] <|
 .op (.bin .quo) [.v 3, .cell (.v 1) 1] <|
 .op (.bin .add) [.cell (.v 0) 3, .cell (.v 1) 0] <|
 .op (.bin .sub) [.v 5, .c (.int .i64 (1))] <|
 .op (.bin .quo) [.v 6, .cell (.v 1) 0] <|
 .leaf 0,
 [.node [.v 4, .v 7]], .node [.e, .e]⟩
def F72 : Fn := ⟨[none],
 .call 97 [.v 0, .c (.int .i64 (0)), .c (.int .i64 (100000))] <|
 .leaf 0,
 [.v 1], .e⟩
def F73 : Fn := ⟨[(some 7), none, (some 2)],
 .call 67 [.node [.cell (.v 0) 0, .cell (.v 0) 1, .cell (.v 0) 2, .cell (.v 0) 3, .cell (.v 0) 4, .cell (.v 0) 5, .cell (.v 0) 6], .v 1] <|
 .call 74 [.c (.int .i64 (100001))] <|
 .op (.idx 5) [.cell (.v 0) 1, .v 1] <|
 .op (.elem 4 none) [.cell (.v 0) 1, .v 1] <|
 .op .len [.v 6] <|
 .loop [.c (.int .i64 (0)), .cell (.v 4) 0, .cell (.v 4) 1] (
  .op (.bin .lss) [.v 8, .v 7] <|
  .ite (.v 11) (.op (.idx 4) [.v 6, .v 8] <|
   .op (.elem 0 (some 4)) [.v 6, .v 8] <|
   .op (.mx true) [.cell (.v 2) 0, .cell (.v 13) 0] <|
   .op (.bin .add) [.v 14, .cell (.v 3) 0] <|
   .op (.bin .sub) [.v 15, .c (.int .i64 (1))] <|
   .op (.bin .leq) [.v 16, .cell (.v 13) 3] <|
   .blk (
    .ite (.v 17) (.op (.listOf 1 2 [.int .i64 (0)] [0, 1]) [.v 9, .v 14] <|
     .call 116 [.v 18] <|
     .flat (.v 19) <|
     .leaf 0) <|
    .leaf 1) [([.v 19], 0), ([.v 9], 0)] [.op (.mx true) [.cell (.v 2) 1, .cell (.v 13) 1] <|
    .op (.bin .add) [.v 19, .cell (.v 3) 1] <|
    .op (.bin .sub) [.v 20, .c (.int .i64 (1))] <|
    .op (.bin .leq) [.v 21, .cell (.v 13) 2] <|
    .blk (
     .ite (.v 22) (.op (.listOf 1 2 [.int .i64 (0)] [0, 1]) [.v 10, .v 19] <|
      .call 116 [.v 23] <|
      .flat (.v 24) <|
      .leaf 0) <|
     .leaf 1) [([.v 24], 0), ([.v 10], 0)] [.op (.bin .add) [.v 8, .c (.int .i64 (1))] <|
     .leaf 0]]) <|
  .leaf 1) [([.v 24, .v 18, .v 23], none), ([.v 9, .v 10], some 0)] [.leaf 0],
 [.node [.v 8, .v 9]], .node [.e, .e]⟩
def F74 : Fn := ⟨[none],
 .leaf 0,
 [.node [.v 0, .v 0]], .node [.e, .e]⟩
def F75 : Fn := ⟨[(some 5), none, (some 2)],
 .loop [.c (.int .i64 (0))] (
  .op .len [.cell (.v 0) 4] <|
  .op (.bin .lss) [.v 3, .v 4] <|
  .ite (.v 5) (.op (.idx 4) [.cell (.v 0) 4, .v 3] <|
   .op (.elem 0 none) [.cell (.v 0) 4, .v 3] <|
   .op (.mx true) [.v 1, .v 7] <|
   .call 71 [.node [.cell (.v 0) 0, .cell (.v 0) 1, .cell (.v 0) 2, .cell (.v 0) 3, .cell (.v 0) 4], .node [.cell (.v 2) 0, .cell (.v 2) 1]] <|
   .op (.bin .add) [.v 8, .cell (.v 9) 0] <|
   .op (.bin .sub) [.v 10, .c (.int .i64 (1))] <|
   .op (.idx 4) [.cell (.v 0) 4, .v 3] <|
   .op (.elem 3 none) [.cell (.v 0) 4, .v 3] <|
   .op (.bin .leq) [.v 11, .v 13] <|
   .ite (.v 14) (.leaf 0) <|
   .op (.bin .add) [.v 3, .c (.int .i64 (1))] <|
   .leaf 1) <|
  .leaf 2) [([.v 8], some 0), ([.v 15], none), ([], some 1)] [.leaf 0,
  .leaf 1],
 [.v 3, .c (.int .i64 (100001))], .e⟩
def F76 : Fn := ⟨[(some 5), none, (some 2)],
 .loop [.c (.int .i64 (0))] (
  .op .len [.cell (.v 0) 4] <|
  .op (.bin .lss) [.v 3, .v 4] <|
  .ite (.v 5) (.op (.idx 4) [.cell (.v 0) 4, .v 3] <|
   .op (.elem 1 none) [.cell (.v 0) 4, .v 3] <|
   .op (.mx true) [.v 1, .v 7] <|
   .call 71 [.node [.cell (.v 0) 0, .cell (.v 0) 1, .cell (.v 0) 2, .cell (.v 0) 3, .cell (.v 0) 4], .node [.cell (.v 2) 0, .cell (.v 2) 1]] <|
   .op (.bin .add) [.v 8, .cell (.v 9) 1] <|
   .op (.bin .sub) [.v 10, .c (.int .i64 (1))] <|
   .op (.idx 4) [.cell (.v 0) 4, .v 3] <|
   .op (.elem 2 none) [.cell (.v 0) 4, .v 3] <|
   .op (.bin .leq) [.v 11, .v 13] <|
   .ite (.v 14) (.leaf 0) <|
   .op (.bin .add) [.v 3, .c (.int .i64 (1))] <|
   .leaf 1) <|
  .leaf 2) [([.v 8], some 0), ([.v 15], none), ([], some 1)] [.leaf 0,
  .leaf 1],
 [.v 3, .c (.int .i64 (100001))], .e⟩
def F77 : Fn := ⟨[(some 2)],
 .blk (
  .op .len [.cell (.v 0) 0] <|
  .call 97 [.v 1, .c (.int .i64 (1)), .c (.int .i64 (12))] <|
  .op (.un .not) [.v 2] <|
  .ite (.v 3) (.leaf 0) <|
  .op .len [.cell (.v 0) 1] <|
  .op (.bin .gtr) [.v 4, .c (.int .i64 (24))] <|
  .leaf 1) [([.c (.bool true)], 0), ([.v 5], 0)] [.ite (.v 1) (.leaf 0) <|
  .op .len [.cell (.v 0) 0] <|
  .loop [.c (.int .i64 (0))] (
   .op (.bin .lss) [.v 3, .v 2] <|
   .ite (.v 4) (.op (.idx 9) [.cell (.v 0) 0, .v 3] <|
    .op (.elem 0 (some 9)) [.cell (.v 0) 0, .v 3] <|
    .call 117 [.node [.cell (.v 6) 0, .cell (.v 6) 1, .cell (.v 6) 2, .cell (.v 6) 3, .cell (.v 6) 4, .cell (.v 6) 5, .cell (.v 6) 6, .cell (.v 6) 7, .cell (.v 6) 8]] <|
    .op (.un .not) [.v 7] <|
    .ite (.v 8) (.leaf 0) <|
    .op (.bin .add) [.v 3, .c (.int .i64 (1))] <|
    .leaf 1) <|
   .leaf 2) [([], some 0), ([.v 9], none), ([], some 1)] [.leaf 1,
   .op .len [.cell (.v 0) 1] <|
   .loop [.c (.int .i64 (0))] (
    .op (.bin .lss) [.v 4, .v 3] <|
    .ite (.v 5) (.op (.idx 5) [.cell (.v 0) 1, .v 4] <|
     .op (.elem 0 (some 5)) [.cell (.v 0) 1, .v 4] <|
     .blk (
      .call 94 [.cell (.v 7) 0, .cell (.v 0) 0] <|
      .op (.un .not) [.v 8] <|
      .ite (.v 9) (.leaf 0) <|
      .call 94 [.cell (.v 7) 1, .cell (.v 0) 0] <|
      .op (.un .not) [.v 10] <|
      .ite (.v 11) (.leaf 1) <|
      .call 118 [.node [.cell (.v 7) 0, .cell (.v 7) 1, .cell (.v 7) 2, .cell (.v 7) 3, .cell (.v 7) 4]] <|
      .op (.un .not) [.v 12] <|
      .leaf 2) [([.c (.bool true)], 0), ([.c (.bool true)], 0), ([.v 13], 0)] [.ite (.v 8) (.leaf 0) <|
      .op (.bin .add) [.v 4, .c (.int .i64 (1))] <|
      .leaf 1]) <|
    .leaf 2) [([], some 0), ([.v 9], none), ([], some 1)] [.leaf 2,
    .leaf 3]]],
 [.c (.bool false), .c (.bool false), .c (.bool false), .c (.bool true)], .e⟩
def F78 : Fn := ⟨[(some 2)],
 .blk (
  .op .len [.cell (.v 0) 0] <|
  .call 70 [.v 1, .c (.int .i64 (1)), .c (.int .i64 (12))] <|
  .op (.un .not) [.v 2] <|
  .ite (.v 3) (.leaf 0) <|
  .op .len [.cell (.v 0) 1] <|
  .op (.bin .gtr) [.v 4, .c (.int .i64 (24))] <|
  .leaf 1) [([.c (.bool true)], 0), ([.v 5], 0)] [.ite (.v 1) (.leaf 0) <|
  .loop [.c (.int .i64 (0))] (
   .op .len [.cell (.v 0) 0] <|
   .op (.bin .lss) [.v 2, .v 3] <|
   .ite (.v 4) (.op (.idx 9) [.cell (.v 0) 0, .v 2] <|
    .op (.elem 0 (some 9)) [.cell (.v 0) 0, .v 2] <|
    .blk (
     .call 70 [.cell (.v 6) 0, .c (.int .i64 (-10000000)), .c (.int .i64 (10000000))] <|
     .op (.un .not) [.v 7] <|
     .ite (.v 8) (.leaf 0) <|
     .call 70 [.cell (.v 6) 1, .c (.int .i64 (-10000000)), .c (.int .i64 (10000000))] <|
     .op (.un .not) [.v 9] <|
     .ite (.v 10) (.leaf 1) <|
     .call 70 [.cell (.v 6) 2, .c (.int .i64 (0)), .c (.int .i64 (200))] <|
     .op (.un .not) [.v 11] <|
     .ite (.v 12) (.leaf 2) <|
     .call 119 [.node [.cell (.v 6) 3, .cell (.v 6) 4], .c (.int .i64 (0)), .c (.int .i64 (10000000))] <|
     .op (.un .not) [.v 13] <|
     .ite (.v 14) (.leaf 3) <|
     .call 70 [.cell (.v 6) 5, .c (.int .i64 (0)), .c (.int .i64 (1000000000))] <|
     .op (.un .not) [.v 15] <|
     .ite (.v 16) (.leaf 4) <|
     .call 119 [.node [.cell (.v 6) 6, .cell (.v 6) 7], .c (.int .i64 (0)), .cell (.v 6) 5] <|
     .op (.un .not) [.v 17] <|
     .ite (.v 18) (.leaf 5) <|
     .call 70 [.cell (.v 6) 8, .c (.int .i64 (0)), .c (.int .i64 (9999))] <|
     .op (.un .not) [.v 19] <|
     .leaf 6) [([.c (.bool true)], 0), ([.c (.bool true)], 0), ([.c (.bool true)], 0), ([.c (.bool true)], 0), ([.c (.bool true)], 0), ([.c (.bool true)], 0), ([.v 20], 0)] [.ite (.v 7) (.leaf 0) <|
     .op (.bin .add) [.v 2, .c (.int .i64 (1))] <|
     .leaf 1]) <|
   .leaf 2) [([], some 0), ([.v 8], none), ([], some 1)] [.leaf 1,
   .loop [.c (.int .i64 (0))] (
    .op .len [.cell (.v 0) 1] <|
    .op (.bin .lss) [.v 2, .v 3] <|
    .ite (.v 4) (.blk (
      .op (.idx 5) [.cell (.v 0) 1, .v 2] <|
      .op (.elem 0 (some 5)) [.cell (.v 0) 1, .v 2] <|
      .blk (
       .op .len [.cell (.v 0) 0] <|
       .op (.bin .sub) [.v 7, .c (.int .i64 (1))] <|
       .call 70 [.cell (.v 6) 0, .c (.int .i64 (0)), .v 8] <|
       .op (.un .not) [.v 9] <|
       .ite (.v 10) (.leaf 0) <|
       .op .len [.cell (.v 0) 0] <|
       .op (.bin .sub) [.v 11, .c (.int .i64 (1))] <|
       .call 70 [.cell (.v 6) 1, .c (.int .i64 (0)), .v 12] <|
       .op (.un .not) [.v 13] <|
       .ite (.v 14) (.leaf 1) <|
       .op (.bin .eql) [.cell (.v 6) 0, .cell (.v 6) 1] <|
       .ite (.v 15) (.leaf 2) <|
       .call 119 [.node [.cell (.v 6) 2, .cell (.v 6) 3], .c (.int .i64 (1)), .c (.int .i64 (1000000))] <|
       .op (.un .not) [.v 16] <|
       .ite (.v 17) (.leaf 3) <|
       .op .len [.cell (.v 6) 4] <|
       .op (.bin .gtr) [.v 18, .c (.int .i64 (6))] <|
       .leaf 4) [([.c (.bool true)], 0), ([.c (.bool true)], 0), ([.c (.bool true)], 0), ([.c (.bool true)], 0), ([.v 19], 0)] [.ite (.v 7) (.leaf 0) <|
       .loop [.c (.int .i64 (-1)), .c (.int .i64 (0))] (
        .op .len [.cell (.v 6) 4] <|
        .op (.bin .lss) [.v 9, .v 10] <|
        .ite (.v 11) (.op (.idx 4) [.cell (.v 6) 4, .v 9] <|
         .op (.elem 0 (some 4)) [.cell (.v 6) 4, .v 9] <|
         .blk (
          .call 119 [.node [.cell (.v 13) 0, .cell (.v 13) 1], .c (.int .i64 (0)), .c (.int .i64 (100000))] <|
          .op (.un .not) [.v 14] <|
          .ite (.v 15) (.leaf 0) <|
          .call 119 [.node [.cell (.v 13) 2, .cell (.v 13) 3], .c (.int .i64 (0)), .c (.int .i64 (100000))] <|
          .op (.un .not) [.v 16] <|
          .ite (.v 17) (.leaf 1) <|
          .op (.bin .gtr) [.cell (.v 13) 0, .cell (.v 13) 3] <|
          .ite (.v 18) (.leaf 2) <|
          .op (.bin .leq) [.cell (.v 13) 0, .v 8] <|
          .leaf 3) [([.c (.bool true)], 0), ([.c (.bool true)], 0), ([.c (.bool true)], 0), ([.v 19], 0)] [.ite (.v 14) (.leaf 0) <|
          .op (.bin .add) [.v 9, .c (.int .i64 (1))] <|
          .leaf 1]) <|
        .leaf 2) [([], some 0), ([.cell (.v 13) 3, .v 15], none), ([], some 1)] [.leaf 1,
        .leaf 2]]) [([], 0), ([], 0), ([], 1)] [.leaf 0,
      .op (.bin .add) [.v 2, .c (.int .i64 (1))] <|
      .leaf 1]) <|
    .leaf 2) [([], some 0), ([.v 5], none), ([], some 1)] [.leaf 2,
    .leaf 3]]],
 [.c (.bool false), .c (.bool false), .c (.bool false), .c (.bool true)], .e⟩
def F88 : Fn := ⟨[(some 2)],
 .call 119 [.node [.cell (.v 0) 0, .cell (.v 0) 1], .c (.int .i64 (1)), .c (.int .i64 (100000))] <|
 .leaf 0,
 [.v 1], .e⟩
def F89 : Fn := ⟨[(some 2), none, none, (some 2)],
 .call 65 [.node [.cell (.v 0) 0, .cell (.v 0) 1], .node [.cell (.v 3) 0, .cell (.v 3) 1]] <|
 .op (.bin .neq) [.cell (.v 4) 1, .c (.int .i64 (0))] <|
 .ite (.v 5) (.leaf 0) <|
 .blk (
  .call 94 [.v 1, .cell (.v 0) 0] <|
  .op (.un .not) [.v 6] <|
  .ite (.v 7) (.leaf 0) <|
  .call 72 [.v 2] <|
  .op (.un .not) [.v 8] <|
  .leaf 1) [([.c (.bool true)], 0), ([.v 9], 0)] [.ite (.v 6) (.leaf 1) <|
  .call 74 [.v 2] <|
  .leaf 2],
 [.node [.node [.c (.list []), .c (.list []), .c (.int .i64 (0)), .c (.int .i64 (0)), .c (.int .i64 (0)), .c (.int .i64 (0)), .c (.int .i64 (0))], .cell (.v 4) 1], .node [.node [.c (.list []), .c (.list []), .c (.int .i64 (0)), .c (.int .i64 (0)), .c (.int .i64 (0)), .c (.int .i64 (0)), .c (.int .i64 (0))], .c (.int .i64 (2))], .node [.node [.cell (.cell (.v 4) 0) 0, .cell (.cell (.v 4) 0) 1, .cell (.cell (.v 4) 0) 2, .cell (.cell (.v 4) 0) 3, .v 1, .cell (.v 7) 0, .cell (.v 7) 1], .c (.int .i64 (0))]], .tup [.node [.e, .e, .e, .e, .e, .e, .e], .e]⟩
def F90 : Fn := ⟨[(some 7), none],
 .op .len [.v 1] <|
 .loop [.cell (.v 0) 4, .c (.int .i64 (0))] (
  .op (.bin .lss) [.v 4, .v 2] <|
  .ite (.v 5) (.blk (
    .op (.idx 1) [.v 1, .v 4] <|
    .op (.elem 0 none) [.v 1, .v 4] <|
    .call 66 [.v 7, .cell (.v 0) 1] <|
    .op (.un .not) [.v 8] <|
    .ite (.v 9) (.leaf 0) <|
    .op (.idx 5) [.cell (.v 0) 1, .v 7] <|
    .op (.elem 0 (some 5)) [.cell (.v 0) 1, .v 7] <|
    .call 122 [.node [.cell (.v 11) 0, .cell (.v 11) 1, .cell (.v 11) 2, .cell (.v 11) 3, .cell (.v 11) 4], .v 3] <|
    .op (.un .not) [.cell (.v 12) 1] <|
    .ite (.v 13) (.leaf 1) <|
    .leaf 2) [([], 0), ([], 0), ([.cell (.v 12) 0], 1)] [.leaf 0,
    .op (.bin .add) [.v 4, .c (.int .i64 (1))] <|
    .leaf 1]) <|
  .leaf 2) [([.v 4], some 0), ([.v 6, .v 7], none), ([], some 1)] [.leaf 0,
  .leaf 1],
 [.node [.v 3, .c (.bool true)], .node [.c (.int .i64 (0)), .c (.bool false)]], .tup [.e, .e]⟩
def F91 : Fn := ⟨[(some 7), none],
 .op (.idx 5) [.cell (.v 0) 1, .v 1] <|
 .op (.elem 0 (some 5)) [.cell (.v 0) 1, .v 1] <|
 .call 122 [.node [.cell (.v 3) 0, .cell (.v 3) 1, .cell (.v 3) 2, .cell (.v 3) 3, .cell (.v 3) 4], .cell (.v 0) 4] <|
 .call 73 [.node [.cell (.v 0) 0, .cell (.v 0) 1, .cell (.v 0) 2, .cell (.v 0) 3, .cell (.v 0) 4, .cell (.v 0) 5, .cell (.v 0) 6], .v 1, .node [.cell (.v 0) 5, .cell (.v 0) 6]] <|
 .call 123 [.node [.cell (.v 0) 0, .cell (.v 0) 1, .cell (.v 0) 2, .cell (.v 0) 3, .cell (.v 0) 4, .cell (.v 0) 5, .cell (.v 0) 6], .v 1, .node [.cell (.v 5) 0, .cell (.v 5) 1]] <|
 .call 68 [.node [.cell (.v 5) 0, .cell (.v 5) 1]] <|
 .call 68 [.node [.cell (.v 6) 0, .cell (.v 6) 1]] <|
 .op (.bin .leq) [.cell (.v 6) 1, .c (.int .i64 (100000))] <|
 .leaf 0,
 [.node [.node [.v 1, .cell (.v 4) 0, .cell (.v 7) 0, .cell (.v 7) 1, .cell (.v 8) 0, .cell (.v 8) 1], .v 9]], .tup [.node [.e, .e, .e, .e, .e, .e], .e]⟩
def F92 : Fn := ⟨[none, (some 6)],
 .op (.listOf 6 1 [.int .i64 (0), .int .i64 (0), .int .i64 (0), .int .i64 (0), .int .i64 (0), .int .i64 (0)] [0]) [.cell (.v 1) 0, .cell (.v 1) 1, .cell (.v 1) 2, .cell (.v 1) 3, .cell (.v 1) 4, .cell (.v 1) 5] <|
 .op (.listOf 1 2 [.list []] [0, 1]) [.v 0, .v 2] <|
 .shal 4 (.v 3) <|
 .call 124 [.v 3] <|
 .shal 1 (.v 4) <|
 .leaf 0,
 [.v 4], .own 6⟩
def F93 : Fn := ⟨[(some 7), (some 6)],
 .leaf 0,
 [.node [.cell (.v 0) 0, .cell (.v 0) 1, .cell (.v 0) 2, .cell (.v 0) 3, .cell (.v 1) 1, .cell (.v 1) 4, .cell (.v 1) 5]], .node [.e, .e, .e, .e, .e, .e, .e]⟩
def F94 : Fn := ⟨[none, none],
 .op .len [.v 1] <|
 .op (.bin .sub) [.v 2, .c (.int .i64 (1))] <|
 .call 97 [.v 0, .c (.int .i64 (0)), .v 3] <|
 .leaf 0,
 [.v 4], .e⟩
def F95 : Fn := ⟨[none, none],
 .op .len [.v 0] <|
 .loop [.c (.int .i64 (0)), .c (.int .i64 (0))] (
  .op (.bin .lss) [.v 4, .v 2] <|
  .ite (.v 5) (.op (.idx 3) [.v 0, .v 4] <|
   .op (.elem 0 (some 3)) [.v 0, .v 4] <|
   .blk (
    .call 94 [.cell (.v 7) 0, .v 1] <|
    .op (.un .not) [.v 8] <|
    .ite (.v 9) (.leaf 0) <|
    .call 97 [.cell (.v 7) 1, .v 3, .c (.int .i64 (100000))] <|
    .op (.un .not) [.v 10] <|
    .ite (.v 11) (.leaf 1) <|
    .call 97 [.cell (.v 7) 2, .c (.int .i64 (0)), .c (.int .i64 (1000000000))] <|
    .op (.un .not) [.v 12] <|
    .leaf 2) [([.c (.bool true)], 0), ([.c (.bool true)], 0), ([.v 13], 0)] [.ite (.v 8) (.leaf 0) <|
    .op (.bin .add) [.v 4, .c (.int .i64 (1))] <|
    .leaf 1]) <|
  .leaf 2) [([], some 0), ([.cell (.v 7) 1, .v 9], none), ([], some 1)] [.leaf 0,
  .leaf 1],
 [.c (.bool false), .c (.bool true)], .e⟩
def F96 : Fn := ⟨[(some 9), none],
 .op (.bin .mul) [.v 1, .cell (.v 0) 3] <|
 .op (.bin .add) [.cell (.v 0) 6, .v 2] <|
 .op (.mx false) [.cell (.v 0) 5, .v 3] <|
 .op (.bin .mul) [.v 1, .cell (.v 0) 4] <|
 .op (.bin .add) [.cell (.v 0) 7, .v 5] <|
 .op (.mx false) [.cell (.v 0) 5, .v 6] <|
 .leaf 0,
 [.node [.v 4, .v 7]], .node [.e, .e]⟩
def F97 : Fn := ⟨[none, none, none],
 .blk (
  .op (.bin .leq) [.v 1, .v 0] <|
  .ite (.v 3) (.op (.bin .leq) [.v 0, .v 2] <|
   .leaf 0) <|
  .leaf 1) [([.v 4], 0), ([.c (.bool false)], 0)] [.leaf 0],
 [.v 3], .e⟩
def F98 : Fn := ⟨[none, none],
 .op (.bin .add) [.v 0, .v 1] <|
 .op (.bin .sub) [.v 2, .c (.int .i64 (1))] <|
 .op (.bin .quo) [.v 3, .v 1] <|
 .leaf 0,
 [.v 4], .e⟩
def F111 : Fn := ⟨[(some 17)],
 .blk (
  .op (.bin .lss) [.cell (.v 0) 0, .c (.int .i64 (1))] <|
  .ite (.v 1) (.leaf 0) <|
  .op (.bin .gtr) [.cell (.v 0) 0, .c (.int .i64 (1000000))] <|
  .ite (.v 2) (.leaf 1) <|
  .op (.bin .lss) [.cell (.v 0) 1, .c (.int .i64 (1))] <|
  .ite (.v 3) (.leaf 2) <|
  .op (.bin .gtr) [.cell (.v 0) 1, .c (.int .i64 (1000000))] <|
  .leaf 3) [([.c (.bool true)], 0), ([.c (.bool true)], 0), ([.c (.bool true)], 0), ([.v 4], 0)] [.blk (
   .ite (.v 1) (.leaf 0) <|
   .op (.listOf 2 6 [.int .i64 (0), .int .i64 (0)] [0, 1, 2, 3, 4, 5]) [.cell (.v 0) 2, .cell (.v 0) 3, .cell (.v 0) 4, .cell (.v 0) 5, .cell (.v 0) 6, .cell (.v 0) 7, .cell (.v 0) 8, .cell (.v 0) 9, .cell (.v 0) 10, .cell (.v 0) 11, .cell (.v 0) 12, .cell (.v 0) 13] <|
   .call 129 [.c (.int .i64 (100000)), .v 2] <|
   .flat (.v 3) <|
   .op (.un .not) [.v 3] <|
   .blk (
    .ite (.v 4) (.leaf 0) <|
    .blk (
     .op (.bin .lss) [.cell (.v 0) 14, .c (.int .i64 (0))] <|
     .ite (.v 5) (.leaf 0) <|
     .op (.bin .gtr) [.cell (.v 0) 14, .c (.int .i64 (1000))] <|
     .ite (.v 6) (.leaf 1) <|
     .op (.listOf 2 1 [.int .i64 (0), .int .i64 (0)] [0]) [.cell (.v 0) 15, .cell (.v 0) 16] <|
     .call 129 [.c (.int .i64 (1000000)), .v 7] <|
     .flat (.v 8) <|
     .op (.un .not) [.v 8] <|
     .leaf 2) [([.c (.bool true)], 0), ([.c (.bool true)], 0), ([.v 9], 0)] [.ite (.v 5) (.leaf 1) <|
     .leaf 2]) [([], 0), ([], 0), ([], 1)] [.leaf 1,
    .leaf 2]) [([], 0), ([], 0), ([], 1)] [.leaf 0,
   .leaf 1]],
 [.c (.int .i64 (10)), .c (.int .i64 (0))], .e⟩
def F112 : Fn := ⟨[(some 17), (some 7)],
 .call 111 [.node [.cell (.v 0) 0, .cell (.v 0) 1, .cell (.v 0) 2, .cell (.v 0) 3, .cell (.v 0) 4, .cell (.v 0) 5, .cell (.v 0) 6, .cell (.v 0) 7, .cell (.v 0) 8, .cell (.v 0) 9, .cell (.v 0) 10, .cell (.v 0) 11, .cell (.v 0) 12, .cell (.v 0) 13, .cell (.v 0) 14, .cell (.v 0) 15, .cell (.v 0) 16]] <|
 .op (.bin .neq) [.v 2, .c (.int .i64 (0))] <|
 .ite (.v 3) (.leaf 0) <|
 .blk (
  .op (.listOf 2 1 [.int .i64 (0), .int .i64 (0)] [0]) [.cell (.v 1) 0, .cell (.v 1) 1] <|
  .call 129 [.cell (.v 0) 0, .v 4] <|
  .flat (.v 5) <|
  .op (.un .not) [.v 5] <|
  .ite (.v 6) (.leaf 0) <|
  .op (.listOf 2 1 [.int .i64 (0), .int .i64 (0)] [0]) [.cell (.v 1) 2, .cell (.v 1) 3] <|
  .call 129 [.cell (.v 0) 1, .v 7] <|
  .flat (.v 8) <|
  .op (.un .not) [.v 8] <|
  .ite (.v 9) (.leaf 1) <|
  .op (.listOf 2 1 [.int .i64 (0), .int .i64 (0)] [0]) [.cell (.v 1) 4, .cell (.v 1) 5] <|
  .call 129 [.c (.int .i64 (1000)), .v 10] <|
  .flat (.v 11) <|
  .op (.un .not) [.v 11] <|
  .leaf 2) [([.c (.bool true)], 0), ([.c (.bool true)], 0), ([.v 12], 0)] [.ite (.v 4) (.leaf 1) <|
  .leaf 2],
 [.v 2, .c (.int .i64 (11)), .c (.int .i64 (0))], .e⟩
def F115 : Fn := ⟨[(some 2), none, none],
 .blk (
  .op (.bin .leq) [.v 1, .cell (.v 0) 0] <|
  .ite (.v 3) (.op (.bin .leq) [.cell (.v 0) 0, .cell (.v 0) 1] <|
   .ite (.v 4) (.op (.bin .leq) [.cell (.v 0) 1, .v 2] <|
    .leaf 0) <|
   .leaf 1) <|
  .leaf 2) [([.v 5], 0), ([.c (.bool false)], 0), ([.c (.bool false)], 0)] [.leaf 0],
 [.v 3], .e⟩
def F116 : Fn := ⟨[none],
 .op .len [.v 0] <|
 .loop [.c (.int .i64 (100001)), .c (.int .i64 (0))] (
  .op (.bin .lss) [.v 3, .v 1] <|
  .ite (.v 4) (.op (.idx 1) [.v 0, .v 3] <|
   .op (.elem 0 none) [.v 0, .v 3] <|
   .op (.mx false) [.v 2, .v 6] <|
   .op (.bin .add) [.v 3, .c (.int .i64 (1))] <|
   .leaf 0) <|
  .leaf 1) [([.v 7, .v 8], none), ([.v 2], some 0)] [.leaf 0],
 [.v 2], .e⟩
def F117 : Fn := ⟨[(some 9)],
 .blk (
  .call 97 [.cell (.v 0) 0, .c (.int .i64 (-10000000)), .c (.int .i64 (10000000))] <|
  .ite (.v 1) (.call 97 [.cell (.v 0) 1, .c (.int .i64 (-10000000)), .c (.int .i64 (10000000))] <|
   .ite (.v 2) (.call 97 [.cell (.v 0) 2, .c (.int .i64 (0)), .c (.int .i64 (200))] <|
    .ite (.v 3) (.call 115 [.node [.cell (.v 0) 3, .cell (.v 0) 4], .c (.int .i64 (0)), .c (.int .i64 (10000000))] <|
     .ite (.v 4) (.call 97 [.cell (.v 0) 5, .c (.int .i64 (0)), .c (.int .i64 (1000000000))] <|
      .ite (.v 5) (.call 115 [.node [.cell (.v 0) 6, .cell (.v 0) 7], .c (.int .i64 (0)), .cell (.v 0) 5] <|
       .ite (.v 6) (.call 97 [.cell (.v 0) 8, .c (.int .i64 (0)), .c (.int .i64 (9999))] <|
        .leaf 0) <|
       .leaf 1) <|
      .leaf 2) <|
     .leaf 3) <|
    .leaf 4) <|
   .leaf 5) <|
  .leaf 6) [([.v 7], 0), ([.c (.bool false)], 0), ([.c (.bool false)], 0), ([.c (.bool false)], 0), ([.c (.bool false)], 0), ([.c (.bool false)], 0), ([.c (.bool false)], 0)] [.leaf 0],
 [.v 1], .e⟩
def F118 : Fn := ⟨[(some 5)],
 .blk (
  .op (.bin .neq) [.cell (.v 0) 0, .cell (.v 0) 1] <|
  .ite (.v 1) (.call 115 [.node [.cell (.v 0) 2, .cell (.v 0) 3], .c (.int .i64 (1)), .c (.int .i64 (1000000))] <|
   .ite (.v 2) (.call 130 [.cell (.v 0) 4] <|
    .leaf 0) <|
   .leaf 1) <|
  .leaf 2) [([.v 3], 0), ([.c (.bool false)], 0), ([.c (.bool false)], 0)] [.leaf 0],
 [.v 1], .e⟩
def F119 : Fn := ⟨[(some 2), none, none],
 .blk (
  .call 70 [.cell (.v 0) 0, .v 1, .cell (.v 0) 1] <|
  .ite (.v 3) (.op (.bin .leq) [.cell (.v 0) 1, .v 2] <|
   .leaf 0) <|
  .leaf 1) [([.v 4], 0), ([.c (.bool false)], 0)] [.leaf 0],
 [.v 3], .e⟩
def F122 : Fn := ⟨[(some 5), none],
 .op (.bin .eql) [.v 1, .cell (.v 0) 0] <|
 .blk (
  .ite (.v 2) (.leaf 0) <|
  .op (.bin .eql) [.v 1, .cell (.v 0) 1] <|
  .ite (.v 3) (.leaf 1) <|
  .leaf 2) [([.cell (.v 0) 1], 0), ([.cell (.v 0) 0], 0), ([], 1)] [.leaf 0,
  .leaf 1],
 [.node [.v 3, .c (.bool true)], .node [.c (.int .i64 (0)), .c (.bool false)]], .tup [.e, .e]⟩
def F123 : Fn := ⟨[(some 7), none, (some 2)],
 .call 67 [.node [.cell (.v 0) 0, .cell (.v 0) 1, .cell (.v 0) 2, .cell (.v 0) 3, .cell (.v 0) 4, .cell (.v 0) 5, .cell (.v 0) 6], .v 1] <|
 .op (.bin .add) [.cell (.v 2) 0, .cell (.v 3) 0] <|
 .op (.listOf 1 1 [.int .i64 (0)] [0]) [.v 4] <|
 .call 116 [.v 5] <|
 .flat (.v 6) <|
 .op (.bin .add) [.cell (.v 2) 1, .cell (.v 3) 1] <|
 .op (.listOf 1 1 [.int .i64 (0)] [0]) [.v 7] <|
 .call 116 [.v 8] <|
 .flat (.v 9) <|
 .leaf 0,
 [.node [.v 6, .v 9]], .node [.e, .e]⟩
def F124 : Fn := ⟨[none],
 .op .len [.v 0] <|
 .loop [.c (.int .i64 (0)), .c (.int .i64 (0))] (
  .op (.bin .lss) [.v 3, .v 1] <|
  .ite (.v 4) (.op (.idx 1) [.v 0, .v 3] <|
   .op (.elem 0 none) [.v 0, .v 3] <|
   .op .len [.v 6] <|
   .op (.bin .add) [.v 2, .v 7] <|
   .op (.bin .lss) [.v 8, .c (.int .i64 (0))] <|
   .ite (.v 9) (.fail) <|
   .op (.bin .add) [.v 3, .c (.int .i64 (1))] <|
   .leaf 0) <|
  .leaf 1) [([.v 8, .v 10], none), ([.v 2], some 0)] [.op (.bin .lss) [.v 2, .c (.int .i64 (0))] <|
  .ite (.v 3) (.fail) <|
  .op (.bin .sub) [.v 2, .c (.int .i64 (0))] <|
  .op (.bin .gtr) [.v 4, .c (.int .i64 (0))] <|
  .blk (
   .ite (.v 5) (.op (.appZ 6 48 [.int .i64 (0), .int .i64 (0), .int .i64 (0), .int .i64 (0), .int .i64 (0), .int .i64 (0)]) [.v 4] <|
    .op (.sl 6 false true) [.v 6, .c (.int .i64 (0))] <|
    .leaf 0) <|
   .leaf 1) [([.v 7], 0), ([.c (.list [])], 0)] [.op .len [.v 0] <|
   .loop [.c (.int .i64 (0)), .v 6] (
    .op (.bin .lss) [.v 8, .v 7] <|
    .ite (.v 10) (.op (.idx 1) [.v 0, .v 8] <|
     .op (.elem 0 none) [.v 0, .v 8] <|
     .op (.app 6 48) [.v 9, .v 12] <|
     .op (.bin .add) [.v 8, .c (.int .i64 (1))] <|
     .leaf 0) <|
    .leaf 1) [([.v 14, .v 13], none), ([.v 9], some 0)] [.leaf 0]]],
 [.v 8], .own 6⟩
def F129 : Fn := ⟨[none, none],
 .op .len [.v 1] <|
 .loop [.c (.int .i64 (0))] (
  .op (.bin .lss) [.v 3, .v 2] <|
  .ite (.v 4) (.op (.idx 2) [.v 1, .v 3] <|
   .op (.elem 0 (some 2)) [.v 1, .v 3] <|
   .blk (
    .op (.bin .lss) [.cell (.v 6) 0, .c (.int .i64 (0))] <|
    .ite (.v 7) (.leaf 0) <|
    .op (.bin .gtr) [.cell (.v 6) 0, .cell (.v 6) 1] <|
    .ite (.v 8) (.leaf 1) <|
    .op (.bin .gtr) [.cell (.v 6) 1, .v 0] <|
    .leaf 2) [([.c (.bool true)], 0), ([.c (.bool true)], 0), ([.v 9], 0)] [.ite (.v 7) (.leaf 0) <|
    .op (.bin .add) [.v 3, .c (.int .i64 (1))] <|
    .leaf 1]) <|
  .leaf 2) [([], some 0), ([.v 8], none), ([], some 1)] [.leaf 0,
  .leaf 1],
 [.c (.bool false), .c (.bool true)], .e⟩
def F130 : Fn := ⟨[none],
 .op .len [.v 0] <|
 .op (.bin .gtr) [.v 1, .c (.int .i64 (6))] <|
 .ite (.v 2) (.leaf 0) <|
 .op .len [.v 0] <|
 .loop [.c (.int .i64 (-1)), .c (.int .i64 (0))] (
  .op (.bin .lss) [.v 5, .v 3] <|
  .ite (.v 6) (.op (.idx 4) [.v 0, .v 5] <|
   .op (.elem 0 (some 4)) [.v 0, .v 5] <|
   .blk (
    .call 115 [.node [.cell (.v 8) 0, .cell (.v 8) 1], .c (.int .i64 (0)), .c (.int .i64 (100000))] <|
    .op (.un .not) [.v 9] <|
    .ite (.v 10) (.leaf 0) <|
    .call 115 [.node [.cell (.v 8) 2, .cell (.v 8) 3], .c (.int .i64 (0)), .c (.int .i64 (100000))] <|
    .op (.un .not) [.v 11] <|
    .ite (.v 12) (.leaf 1) <|
    .op (.bin .gtr) [.cell (.v 8) 0, .cell (.v 8) 3] <|
    .ite (.v 13) (.leaf 2) <|
    .op (.bin .leq) [.cell (.v 8) 0, .v 4] <|
    .leaf 3) [([.c (.bool true)], 0), ([.c (.bool true)], 0), ([.c (.bool true)], 0), ([.v 14], 0)] [.ite (.v 9) (.leaf 0) <|
    .op (.bin .add) [.v 5, .c (.int .i64 (1))] <|
    .leaf 1]) <|
  .leaf 2) [([], some 0), ([.cell (.v 8) 3, .v 10], none), ([], some 1)] [.leaf 1,
  .leaf 2],
 [.c (.bool false), .c (.bool false), .c (.bool true)], .e⟩
def FN (f : FuncId) : Option Fn :=
  match f with
  | 4 => some F4
  | 10 => some F10
  | 15 => some F15
  | 17 => some F17
  | 18 => some F18
  | 19 => some F19
  | 20 => some F20
  | 21 => some F21
  | 22 => some F22
  | 23 => some F23
  | 28 => some F28
  | 35 => some F35
  | 38 => some F38
  | 44 => some F44
  | 45 => some F45
  | 65 => some F65
  | 66 => some F66
  | 67 => some F67
  | 68 => some F68
  | 69 => some F69
  | 70 => some F70
  | 71 => some F71
  | 72 => some F72
  | 73 => some F73
  | 74 => some F74
  | 75 => some F75
  | 76 => some F76
  | 77 => some F77
  | 78 => some F78
  | 88 => some F88
  | 89 => some F89
  | 90 => some F90
  | 91 => some F91
  | 92 => some F92
  | 93 => some F93
  | 94 => some F94
  | 95 => some F95
  | 96 => some F96
  | 97 => some F97
  | 98 => some F98
  | 111 => some F111
  | 112 => some F112
  | 115 => some F115
  | 116 => some F116
  | 117 => some F117
  | 118 => some F118
  | 119 => some F119
  | 122 => some F122
  | 123 => some F123
  | 124 => some F124
  | 129 => some F129
  | 130 => some F130
  | _ => none
end Go.Q
