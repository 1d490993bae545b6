/- The functions as trees. -/
import Derived.Test.YtimbhebamjnfmaaJL
import Derived.Test.YtimbhebamjnfmaaChecked
set_option linter.unusedVariables false
set_option maxRecDepth 100000
namespace Go.Q
open Go.V
open Go.Proofs.Try (prog)
def isRef (f : FuncId) : Bool := [161, 186, 204, 16, 81].contains f
def dmR (f : FuncId) : Nat := ([((0 : FuncId), 0)].find? (·.1 == f)).elim 0 (·.2)
noncomputable def TP : FuncId → Option IFn := fun f => cFnD prog (isRef f) (dmR f) f
theorem cFn_ref {P : Program} {b : Bool} {dm : Nat} {f : FuncId} {fn : IFn} (h : cFnD P b dm f = some fn) : fn.byref = b ∧ fn.dm = dm := by
  unfold cFnD at h
  split at h
  · cases h
  · split at h
    · cases h
    · split at h
      · cases h
      · split at h
        · cases h; exact ⟨rfl, rfl⟩
        · cases h
theorem TP_ok : TOK prog TP := fun f fn h => by
  obtain ⟨h1, h2⟩ := cFn_ref h
  rw [h1, h2]; exact h
theorem mixed : prog.follows .mixedOrders = true := by kernel_rfl
def F4 : Fn := ⟨[(some 2), none, none, (some 2), none, none],
 .call 13 [] <|
 .op (.un .not) [.v 6] <|
 .ite (.v 7) (.leaf 0) <|
 .blk (
  .call 14 [.node [.cell (.v 0) 0, .cell (.v 0) 1], .node [.cell (.v 3) 0, .cell (.v 3) 1]] <|
  .op (.un .not) [.v 8] <|
  .ite (.v 9) (.leaf 0) <|
  .op (.bin .lss) [.v 1, .c (.int .i64 (0))] <|
  .ite (.v 10) (.leaf 1) <|
  .op .len [.cell (.v 0) 0] <|
  .op (.bin .geq) [.v 1, .v 11] <|
  .ite (.v 12) (.leaf 2) <|
  .op (.bin .lss) [.v 2, .c (.int .i64 (0))] <|
  .ite (.v 13) (.leaf 3) <|
  .op (.bin .gtr) [.v 2, .c (.int .i64 (100000))] <|
  .ite (.v 14) (.leaf 4) <|
  .op .len [.v 4] <|
  .op (.bin .gtr) [.v 15, .c (.int .i64 (24))] <|
  .leaf 5) [([.c (.bool true)], 0), ([.c (.bool true)], 0), ([.c (.bool true)], 0), ([.c (.bool true)], 0), ([.c (.bool true)], 0), ([.v 16], 0)] [.ite (.v 8) (.leaf 1) <|
  .call 15 [.node [.cell (.v 0) 0, .cell (.v 0) 1], .v 1, .v 2, .node [.cell (.v 3) 0, .cell (.v 3) 1], .v 4] <|
  .op (.app 9 72) [.c (.list []), .cell (.v 0) 0] <|
  .op (.app 5 56) [.c (.list []), .cell (.v 0) 1] <|
  .loop [.c (.int .i64 (0)), .v 11] (
   .op .len [.v 13] <|
   .op (.bin .lss) [.v 12, .v 14] <|
   .ite (.v 15) (.op (.idx 5) [.v 13, .v 12] <|
    .op (.elem 4 none) [.v 13, .v 12] <|
    .op (.app 4 32) [.c (.list []), .v 17] <|
    .op (.idx 5) [.v 13, .v 12] <|
    .op (.set 4) [.v 13, .v 12, .v 18] <|
    .op (.bin .add) [.v 12, .c (.int .i64 (1))] <|
    .leaf 0) <|
   .leaf 1) [([.v 21, .v 20], none), ([.v 13], some 0)] [.op .len [.v 12] <|
   .loop [.c (.int .i64 (0)), .v 12] (
    .op (.bin .lss) [.v 14, .v 13] <|
    .ite (.v 16) (.op (.idx 5) [.v 15, .v 14] <|
     .op (.elem 4 none) [.v 15, .v 14] <|
     .op .len [.v 18] <|
     .loop [.c (.int .i64 (0)), .c (.list [])] (
      .op (.bin .lss) [.v 20, .v 19] <|
      .ite (.v 22) (.op (.idx 4) [.v 18, .v 20] <|
       .op (.elem 0 (some 4)) [.v 18, .v 20] <|
       .op (.bin .mul) [.c (.int .i64 (2)), .v 14] <|
       .op (.bin .mul) [.c (.int .i64 (3)), .v 20] <|
       .op (.bin .add) [.v 25, .v 26] <|
       .call 19 [.v 5, .v 27] <|
       .shal 4 (.node [.cell (.v 24) 0, .cell (.v 24) 1]) <|
       .call 18 [.node [.cell (.v 24) 0, .cell (.v 24) 1], .v 28] <|
       .flat (.v 29) <|
       .op (.bin .mul) [.c (.int .i64 (2)), .v 14] <|
       .op (.bin .mul) [.c (.int .i64 (3)), .v 20] <|
       .op (.bin .add) [.v 30, .v 31] <|
       .op (.bin .add) [.v 32, .c (.int .i64 (1))] <|
       .call 19 [.v 5, .v 33] <|
       .shal 4 (.node [.cell (.v 24) 2, .cell (.v 24) 3]) <|
       .call 18 [.node [.cell (.v 24) 2, .cell (.v 24) 3], .v 34] <|
       .flat (.v 35) <|
       .op (.bin .leq) [.v 29, .v 35] <|
       .blk (
        .ite (.v 36) (.call 68 [.v 29, .v 29] <|
         .call 68 [.v 35, .v 35] <|
         .op (.listOf 4 1 [.int .i64 (0), .int .i64 (0), .int .i64 (0), .int .i64 (0)] [0]) [.cell (.v 37) 0, .cell (.v 37) 1, .cell (.v 38) 0, .cell (.v 38) 1] <|
         .op (.app 4 32) [.v 21, .v 39] <|
         .leaf 0) <|
        .leaf 1) [([.v 40], 0), ([.v 21], 0)] [.op (.bin .add) [.v 20, .c (.int .i64 (1))] <|
        .leaf 0]) <|
      .leaf 1) [([.v 38, .v 37], none), ([.v 21], some 0)] [.op (.idx 5) [.v 15, .v 14] <|
      .op (.set 4) [.v 15, .v 14, .v 20] <|
      .op (.bin .add) [.v 14, .c (.int .i64 (1))] <|
      .leaf 0]) <|
    .leaf 1) [([.v 23, .v 22], none), ([.v 15], some 0)] [.op .len [.v 4] <|
    .loop [.v 2, .v 1, .c (.int .i64 (0))] (
     .op (.bin .lss) [.v 18, .v 15] <|
     .ite (.v 19) (.blk (
       .op (.idx 1) [.v 4, .v 18] <|
       .op (.elem 0 none) [.v 4, .v 18] <|
       .blk (
        .op (.bin .lss) [.v 21, .c (.int .i64 (0))] <|
        .ite (.v 22) (.leaf 0) <|
        .op .len [.cell (.v 0) 1] <|
        .op (.bin .geq) [.v 21, .v 23] <|
        .ite (.v 24) (.leaf 1) <|
        .op (.idx 5) [.cell (.v 0) 1, .v 21] <|
        .op (.elem 0 (some 5)) [.cell (.v 0) 1, .v 21] <|
        .call 17 [.node [.cell (.v 26) 0, .cell (.v 26) 1, .cell (.v 26) 2, .cell (.v 26) 3, .cell (.v 26) 4], .v 17] <|
        .op (.bin .lss) [.v 27, .c (.int .i64 (0))] <|
        .leaf 2) [([.c (.bool true)], 0), ([.c (.bool true)], 0), ([.v 28], 0)] [.ite (.v 22) (.blk (
          .ite (.v 6) (.op (.bin .eql) [.cell (.v 9) 2, .c (.int .i64 (8))] <|
           .leaf 0) <|
          .leaf 1) [([.v 23], 0), ([.c (.bool false)], 0)] [.leaf 0]) <|
        .op (.idx 5) [.cell (.v 0) 1, .v 21] <|
        .op (.elem 0 (some 5)) [.cell (.v 0) 1, .v 21] <|
        .call 17 [.node [.cell (.v 24) 0, .cell (.v 24) 1, .cell (.v 24) 2, .cell (.v 24) 3, .cell (.v 24) 4], .v 17] <|
        .op (.bin .neq) [.cell (.v 9) 2, .c (.int .i64 (0))] <|
        .ite (.v 26) (.leaf 1) <|
        .op (.bin .mul) [.c (.int .i64 (5)), .v 18] <|
        .call 19 [.v 5, .v 27] <|
        .call 18 [.node [.cell (.v 3) 0, .cell (.v 3) 1], .v 28] <|
        .op (.idx 5) [.cell (.v 0) 1, .v 21] <|
        .op (.elem 2 (some 2)) [.cell (.v 0) 1, .v 21] <|
        .op (.bin .mul) [.c (.int .i64 (5)), .v 18] <|
        .op (.bin .add) [.v 32, .c (.int .i64 (1))] <|
        .call 19 [.v 5, .v 33] <|
        .call 18 [.node [.cell (.v 31) 0, .cell (.v 31) 1], .v 34] <|
        .op (.bin .add) [.v 35, .v 29] <|
        .op (.bin .sub) [.v 36, .c (.int .i64 (1))] <|
        .op (.bin .quo) [.v 37, .v 29] <|
        .op (.idx 5) [.v 14, .v 21] <|
        .op (.elem 0 (some 5)) [.v 14, .v 21] <|
        .shal 4 (.node [.cell (.v 40) 0, .cell (.v 40) 1, .cell (.v 40) 2, .cell (.v 40) 3, .cell (.v 40) 4]) <|
        .call 20 [.node [.cell (.v 40) 0, .cell (.v 40) 1, .cell (.v 40) 2, .cell (.v 40) 3, .cell (.v 40) 4], .v 16, .v 38] <|
        .flat (.v 41) <|
        .blk (
         .op (.bin .geq) [.v 41, .c (.int .i64 (100001))] <|
         .ite (.v 42) (.leaf 0) <|
         .op .len [.cell (.v 9) 0] <|
         .op (.bin .leq) [.v 43, .v 18] <|
         .ite (.v 44) (.leaf 1) <|
         .op (.idx 6) [.cell (.v 9) 0, .v 18] <|
         .op (.elem 0 none) [.cell (.v 9) 0, .v 18] <|
         .op (.bin .neq) [.v 46, .v 21] <|
         .ite (.v 47) (.leaf 2) <|
         .op (.idx 6) [.cell (.v 9) 0, .v 18] <|
         .op (.elem 1 none) [.cell (.v 9) 0, .v 18] <|
         .op (.bin .neq) [.v 49, .v 25] <|
         .ite (.v 50) (.leaf 3) <|
         .op (.idx 6) [.cell (.v 9) 0, .v 18] <|
         .op (.elem 4 none) [.cell (.v 9) 0, .v 18] <|
         .op (.bin .lss) [.v 41, .v 52] <|
         .ite (.v 53) (.leaf 4) <|
         .op (.idx 6) [.cell (.v 9) 0, .v 18] <|
         .op (.elem 5 none) [.cell (.v 9) 0, .v 18] <|
         .op (.bin .gtr) [.v 41, .v 55] <|
         .ite (.v 56) (.leaf 5) <|
         .op (.bin .sub) [.v 41, .v 38] <|
         .op (.idx 6) [.cell (.v 9) 0, .v 18] <|
         .op (.elem 2 none) [.cell (.v 9) 0, .v 18] <|
         .op (.bin .lss) [.v 57, .v 59] <|
         .ite (.v 60) (.leaf 6) <|
         .op (.bin .sub) [.v 41, .v 38] <|
         .op (.idx 6) [.cell (.v 9) 0, .v 18] <|
         .op (.elem 3 none) [.cell (.v 9) 0, .v 18] <|
         .op (.bin .gtr) [.v 61, .v 63] <|
         .leaf 7) [([.c (.bool true)], 0), ([.c (.bool true)], 0), ([.c (.bool true)], 0), ([.c (.bool true)], 0), ([.c (.bool true)], 0), ([.c (.bool true)], 0), ([.c (.bool true)], 0), ([.v 64], 0)] [.ite (.v 42) (.leaf 2) <|
         .leaf 3]]) [([.v 23], 0), ([.v 16, .v 25], 1), ([.c (.bool false)], 0), ([.v 41, .v 25], 1)] [.leaf 0,
       .op (.bin .add) [.v 18, .c (.int .i64 (1))] <|
       .leaf 1]) <|
     .leaf 2) [([.v 20], some 0), ([.v 20, .v 21, .v 22], none), ([], some 1)] [.leaf 2,
     .op (.bin .neq) [.cell (.v 9) 2, .c (.int .i64 (0))] <|
     .ite (.v 16) (.blk (
       .ite (.v 6) (.op (.bin .eql) [.cell (.v 9) 2, .c (.int .i64 (34))] <|
        .ite (.v 17) (.op .len [.cell (.v 9) 0] <|
         .op (.bin .eql) [.v 18, .c (.int .i64 (0))] <|
         .leaf 0) <|
        .leaf 1) <|
       .leaf 2) [([.v 19], 0), ([.c (.bool false)], 0), ([.c (.bool false)], 0)] [.leaf 3]) <|
     .blk (
      .ite (.v 6) (.op .len [.cell (.v 9) 0] <|
       .op .len [.v 4] <|
       .op (.bin .eql) [.v 17, .v 18] <|
       .leaf 0) <|
      .leaf 1) [([.v 19], 0), ([.c (.bool false)], 0)] [.leaf 4]]]]],
 [.c (.bool false), .v 6, .v 16, .v 17, .v 17], .e⟩
def F13 : Fn := ⟨[],
 .leaf 0,
 [.c (.bool true)], .e⟩
def F14 : Fn := ⟨[(some 2), (some 2)],
 .blk (
  .call 73 [.node [.cell (.v 0) 0, .cell (.v 0) 1]] <|
  .op (.un .not) [.v 2] <|
  .ite (.v 3) (.call 74 [.node [.cell (.v 0) 0, .cell (.v 0) 1]] <|
   .op (.bin .eql) [.v 4, .c (.int .i64 (0))] <|
   .ite (.v 5) (.call 75 [.node [.cell (.v 1) 0, .cell (.v 1) 1]] <|
    .leaf 0) <|
   .leaf 1) <|
  .leaf 2) [([.v 6], 0), ([.c (.bool false)], 0), ([.c (.bool false)], 0)] [.leaf 0],
 [.v 2], .e⟩
def F15 : Fn := ⟨[(some 2), none, none, (some 2), none],
 .call 76 [.node [.cell (.v 0) 0, .cell (.v 0) 1], .v 1, .v 2, .node [.cell (.v 3) 0, .cell (.v 3) 1]] <|
 .op (.bin .neq) [.cell (.v 5) 1, .c (.int .i64 (0))] <|
 .ite (.v 6) (.leaf 0) <|
 .op .len [.v 4] <|
 .op (.bin .gtr) [.v 7, .c (.int .i64 (24))] <|
 .ite (.v 8) (.leaf 1) <|
 .call 77 [.node [.cell (.cell (.v 5) 0) 0, .cell (.cell (.v 5) 0) 1, .cell (.cell (.v 5) 0) 2, .cell (.cell (.v 5) 0) 3, .cell (.cell (.v 5) 0) 4, .cell (.cell (.v 5) 0) 5, .cell (.cell (.v 5) 0) 6], .v 4] <|
 .ite (.cell (.v 9) 1) (.leaf 2) <|
 .op .len [.v 4] <|
 .loop [.c (.int .i64 (0)), .c (.list []), .cell (.cell (.v 5) 0) 0, .cell (.cell (.v 5) 0) 1, .cell (.cell (.v 5) 0) 2, .cell (.cell (.v 5) 0) 3, .cell (.cell (.v 5) 0) 4, .cell (.cell (.v 5) 0) 5, .cell (.cell (.v 5) 0) 6] (
  .op (.bin .lss) [.v 11, .v 10] <|
  .ite (.v 20) (.op (.idx 1) [.v 4, .v 11] <|
   .op (.elem 0 none) [.v 4, .v 11] <|
   .call 78 [.node [.v 13, .v 14, .v 15, .v 16, .v 17, .v 18, .v 19], .v 22] <|
   .op (.un .not) [.cell (.v 23) 1] <|
   .ite (.v 24) (.leaf 0) <|
   .call 79 [.v 12, .node [.cell (.cell (.v 23) 0) 0, .cell (.cell (.v 23) 0) 1, .cell (.cell (.v 23) 0) 2, .cell (.cell (.v 23) 0) 3, .cell (.cell (.v 23) 0) 4, .cell (.cell (.v 23) 0) 5]] <|
   .shal 1 (.v 25) <|
   .call 80 [.node [.v 13, .v 14, .v 15, .v 16, .v 17, .v 18, .v 19], .node [.cell (.cell (.v 23) 0) 0, .cell (.cell (.v 23) 0) 1, .cell (.cell (.v 23) 0) 2, .cell (.cell (.v 23) 0) 3, .cell (.cell (.v 23) 0) 4, .cell (.cell (.v 23) 0) 5]] <|
   .op (.bin .add) [.v 11, .c (.int .i64 (1))] <|
   .leaf 1) <|
  .leaf 2) [([.v 11], some 0), ([.v 27, .v 25, .cell (.v 26) 0, .cell (.v 26) 1, .cell (.v 26) 2, .cell (.v 26) 3, .cell (.v 26) 4, .cell (.v 26) 5, .cell (.v 26) 6], none), ([.v 12], some 1)] [.leaf 3,
  .leaf 4],
 [.node [.c (.list []), .c (.int .i64 (0)), .cell (.v 5) 1], .node [.c (.list []), .c (.int .i64 (0)), .c (.int .i64 (4))], .node [.c (.list []), .cell (.v 9) 0, .c (.int .i64 (8))], .node [.c (.list []), .v 11, .c (.int .i64 (34))], .node [.v 11, .c (.int .i64 (0)), .c (.int .i64 (0))]], .tup [.own 6, .e, .e]⟩
def F17 : Fn := ⟨[(some 5), none],
 .op (.bin .eql) [.v 1, .cell (.v 0) 0] <|
 .blk (
  .ite (.v 2) (.leaf 0) <|
  .op (.bin .eql) [.v 1, .cell (.v 0) 1] <|
  .ite (.v 3) (.leaf 1) <|
  .leaf 2) [([.cell (.v 0) 1], 0), ([.cell (.v 0) 0], 0), ([], 1)] [.leaf 0,
  .leaf 1],
 [.v 3, .c (.int .i64 (-1))], .e⟩
def F18 : Fn := ⟨[(some 2), none],
 .op (.conv .i64) [.v 1] <|
 .op (.bin .sub) [.cell (.v 0) 1, .cell (.v 0) 0] <|
 .op (.bin .add) [.v 3, .c (.int .i64 (1))] <|
 .op (.bin .rem) [.v 2, .v 4] <|
 .op (.bin .add) [.cell (.v 0) 0, .v 5] <|
 .leaf 0,
 [.v 6], .e⟩
def F19 : Fn := ⟨[none, none],
 .op .len [.v 0] <|
 .op (.bin .eql) [.v 2, .c (.int .i64 (0))] <|
 .ite (.v 3) (.leaf 0) <|
 .op .len [.v 0] <|
 .op (.bin .rem) [.v 1, .v 4] <|
 .op (.idx 1) [.v 0, .v 5] <|
 .op (.elem 0 none) [.v 0, .v 5] <|
 .leaf 1,
 [.c (.int .u32 (0)), .v 7], .e⟩
def F20 : Fn := ⟨[(some 5), none, none],
 .op .len [.cell (.v 0) 4] <|
 .loop [.c (.int .i64 (100001)), .c (.int .i64 (0))] (
  .op (.bin .lss) [.v 5, .v 3] <|
  .ite (.v 6) (.op (.idx 4) [.cell (.v 0) 4, .v 5] <|
   .op (.elem 0 (some 4)) [.cell (.v 0) 4, .v 5] <|
   .op (.mx true) [.v 1, .cell (.v 8) 0] <|
   .op (.bin .add) [.v 9, .v 2] <|
   .op (.bin .sub) [.v 10, .c (.int .i64 (1))] <|
   .op (.bin .leq) [.v 11, .cell (.v 8) 2] <|
   .blk (
    .ite (.v 12) (.op (.mx false) [.v 4, .v 9] <|
     .leaf 0) <|
    .leaf 1) [([.v 13], 0), ([.v 4], 0)] [.op (.bin .add) [.v 5, .c (.int .i64 (1))] <|
    .leaf 0]) <|
  .leaf 1) [([.v 13, .v 14], none), ([.v 4], some 0)] [.op (.bin .add) [.v 4, .v 2] <|
  .op (.mx false) [.c (.int .i64 (100001)), .v 5] <|
  .leaf 0],
 [.v 6], .e⟩
def F68 : Fn := ⟨[none, none],
 .leaf 0,
 [.node [.v 0, .v 1]], .node [.e, .e]⟩
def F73 : Fn := ⟨[(some 2)],
 .blk (
  .op .len [.cell (.v 0) 0] <|
  .op (.bin .gtr) [.v 1, .c (.int .i64 (20))] <|
  .ite (.v 2) (.leaf 0) <|
  .op .len [.cell (.v 0) 1] <|
  .op (.bin .gtr) [.v 3, .c (.int .i64 (40))] <|
  .leaf 1) [([.c (.bool true)], 0), ([.v 4], 0)] [.ite (.v 1) (.leaf 0) <|
  .loop [.c (.int .i64 (0))] (
   .op .len [.cell (.v 0) 1] <|
   .op (.bin .lss) [.v 2, .v 3] <|
   .ite (.v 4) (.op (.idx 5) [.cell (.v 0) 1, .v 2] <|
    .op (.elem 4 none) [.cell (.v 0) 1, .v 2] <|
    .op .len [.v 6] <|
    .op (.bin .gtr) [.v 7, .c (.int .i64 (20))] <|
    .ite (.v 8) (.leaf 0) <|
    .op (.bin .add) [.v 2, .c (.int .i64 (1))] <|
    .leaf 1) <|
   .leaf 2) [([], some 0), ([.v 9], none), ([], some 1)] [.leaf 1,
   .leaf 2]],
 [.c (.bool true), .c (.bool true), .c (.bool false)], .e⟩
def F74 : Fn := ⟨[(some 2)],
 .call 136 [.node [.cell (.v 0) 0, .cell (.v 0) 1]] <|
 .op (.un .not) [.v 1] <|
 .ite (.v 2) (.leaf 0) <|
 .leaf 1,
 [.c (.int .i64 (30)), .c (.int .i64 (0))], .e⟩
def F75 : Fn := ⟨[(some 2)],
 .call 137 [.node [.cell (.v 0) 0, .cell (.v 0) 1], .c (.int .i64 (1)), .c (.int .i64 (100000))] <|
 .leaf 0,
 [.v 1], .e⟩
def F76 : Fn := ⟨[(some 2), none, none, (some 2)],
 .call 82 [.node [.cell (.v 0) 0, .cell (.v 0) 1], .node [.cell (.v 3) 0, .cell (.v 3) 1]] <|
 .op (.bin .neq) [.cell (.v 4) 1, .c (.int .i64 (0))] <|
 .ite (.v 5) (.leaf 0) <|
 .blk (
  .call 131 [.v 1, .cell (.v 0) 0] <|
  .op (.un .not) [.v 6] <|
  .ite (.v 7) (.leaf 0) <|
  .call 84 [.v 2] <|
  .op (.un .not) [.v 8] <|
  .leaf 1) [([.c (.bool true)], 0), ([.v 9], 0)] [.ite (.v 6) (.leaf 1) <|
  .call 86 [.v 2] <|
  .leaf 2],
 [.node [.node [.c (.list []), .c (.list []), .c (.int .i64 (0)), .c (.int .i64 (0)), .c (.int .i64 (0)), .c (.int .i64 (0)), .c (.int .i64 (0))], .cell (.v 4) 1], .node [.node [.c (.list []), .c (.list []), .c (.int .i64 (0)), .c (.int .i64 (0)), .c (.int .i64 (0)), .c (.int .i64 (0)), .c (.int .i64 (0))], .c (.int .i64 (2))], .node [.node [.cell (.cell (.v 4) 0) 0, .cell (.cell (.v 4) 0) 1, .cell (.cell (.v 4) 0) 2, .cell (.cell (.v 4) 0) 3, .v 1, .cell (.v 7) 0, .cell (.v 7) 1], .c (.int .i64 (0))]], .tup [.node [.e, .e, .e, .e, .e, .e, .e], .e]⟩
def F77 : Fn := ⟨[(some 7), none],
 .op .len [.v 1] <|
 .loop [.cell (.v 0) 4, .c (.int .i64 (0))] (
  .op (.bin .lss) [.v 4, .v 2] <|
  .ite (.v 5) (.blk (
    .op (.idx 1) [.v 1, .v 4] <|
    .op (.elem 0 none) [.v 1, .v 4] <|
    .call 83 [.v 7, .cell (.v 0) 1] <|
    .op (.un .not) [.v 8] <|
    .ite (.v 9) (.leaf 0) <|
    .op (.idx 5) [.cell (.v 0) 1, .v 7] <|
    .op (.elem 0 (some 5)) [.cell (.v 0) 1, .v 7] <|
    .call 138 [.node [.cell (.v 11) 0, .cell (.v 11) 1, .cell (.v 11) 2, .cell (.v 11) 3, .cell (.v 11) 4], .v 3] <|
    .op (.un .not) [.cell (.v 12) 1] <|
    .ite (.v 13) (.leaf 1) <|
    .leaf 2) [([], 0), ([], 0), ([.cell (.v 12) 0], 1)] [.leaf 0,
    .op (.bin .add) [.v 4, .c (.int .i64 (1))] <|
    .leaf 1]) <|
  .leaf 2) [([.v 4], some 0), ([.v 6, .v 7], none), ([], some 1)] [.leaf 0,
  .leaf 1],
 [.node [.v 3, .c (.bool true)], .node [.c (.int .i64 (0)), .c (.bool false)]], .tup [.e, .e]⟩
def F78 : Fn := ⟨[(some 7), none],
 .op (.idx 5) [.cell (.v 0) 1, .v 1] <|
 .op (.elem 0 (some 5)) [.cell (.v 0) 1, .v 1] <|
 .call 138 [.node [.cell (.v 3) 0, .cell (.v 3) 1, .cell (.v 3) 2, .cell (.v 3) 3, .cell (.v 3) 4], .cell (.v 0) 4] <|
 .call 85 [.node [.cell (.v 0) 0, .cell (.v 0) 1, .cell (.v 0) 2, .cell (.v 0) 3, .cell (.v 0) 4, .cell (.v 0) 5, .cell (.v 0) 6], .v 1, .node [.cell (.v 0) 5, .cell (.v 0) 6]] <|
 .call 139 [.node [.cell (.v 0) 0, .cell (.v 0) 1, .cell (.v 0) 2, .cell (.v 0) 3, .cell (.v 0) 4, .cell (.v 0) 5, .cell (.v 0) 6], .v 1, .node [.cell (.v 5) 0, .cell (.v 5) 1]] <|
 .call 87 [.node [.cell (.v 5) 0, .cell (.v 5) 1]] <|
 .call 87 [.node [.cell (.v 6) 0, .cell (.v 6) 1]] <|
 .op (.bin .leq) [.cell (.v 6) 1, .c (.int .i64 (100000))] <|
 .leaf 0,
 [.node [.node [.v 1, .cell (.v 4) 0, .cell (.v 7) 0, .cell (.v 7) 1, .cell (.v 8) 0, .cell (.v 8) 1], .v 9]], .tup [.node [.e, .e, .e, .e, .e, .e], .e]⟩
def F79 : Fn := ⟨[none, (some 6)],
 .op (.listOf 6 1 [.int .i64 (0), .int .i64 (0), .int .i64 (0), .int .i64 (0), .int .i64 (0), .int .i64 (0)] [0]) [.cell (.v 1) 0, .cell (.v 1) 1, .cell (.v 1) 2, .cell (.v 1) 3, .cell (.v 1) 4, .cell (.v 1) 5] <|
 .op (.listOf 1 2 [.list []] [0, 1]) [.v 0, .v 2] <|
 .shal 4 (.v 3) <|
 .call 140 [.v 3] <|
 .shal 1 (.v 4) <|
 .leaf 0,
 [.v 4], .own 6⟩
def F80 : Fn := ⟨[(some 7), (some 6)],
 .leaf 0,
 [.node [.cell (.v 0) 0, .cell (.v 0) 1, .cell (.v 0) 2, .cell (.v 0) 3, .cell (.v 1) 1, .cell (.v 1) 4, .cell (.v 1) 5]], .node [.e, .e, .e, .e, .e, .e, .e]⟩
def F82 : Fn := ⟨[(some 2), (some 2)],
 .call 133 [.node [.cell (.v 0) 0, .cell (.v 0) 1]] <|
 .op (.bin .neq) [.v 2, .c (.int .i64 (0))] <|
 .ite (.v 3) (.leaf 0) <|
 .call 141 [.node [.cell (.v 1) 0, .cell (.v 1) 1], .c (.int .i64 (1)), .c (.int .i64 (100000))] <|
 .op (.un .not) [.v 4] <|
 .ite (.v 5) (.leaf 1) <|
 .leaf 2,
 [.node [.node [.c (.list []), .c (.list []), .c (.int .i64 (0)), .c (.int .i64 (0)), .c (.int .i64 (0)), .c (.int .i64 (0)), .c (.int .i64 (0))], .v 2], .node [.node [.c (.list []), .c (.list []), .c (.int .i64 (0)), .c (.int .i64 (0)), .c (.int .i64 (0)), .c (.int .i64 (0)), .c (.int .i64 (0))], .c (.int .i64 (31))], .node [.node [.cell (.v 0) 0, .cell (.v 0) 1, .cell (.v 1) 0, .cell (.v 1) 1, .c (.int .i64 (0)), .c (.int .i64 (0)), .c (.int .i64 (0))], .c (.int .i64 (0))]], .tup [.node [.e, .e, .e, .e, .e, .e, .e], .e]⟩
def F83 : Fn := ⟨[none, none],
 .op .len [.v 1] <|
 .op (.bin .sub) [.v 2, .c (.int .i64 (1))] <|
 .call 142 [.v 0, .c (.int .i64 (0)), .v 3] <|
 .leaf 0,
 [.v 4], .e⟩
def F84 : Fn := ⟨[none],
 .call 142 [.v 0, .c (.int .i64 (0)), .c (.int .i64 (100000))] <|
 .leaf 0,
 [.v 1], .e⟩
def F85 : Fn := ⟨[(some 7), none, (some 2)],
 .call 88 [.node [.cell (.v 0) 0, .cell (.v 0) 1, .cell (.v 0) 2, .cell (.v 0) 3, .cell (.v 0) 4, .cell (.v 0) 5, .cell (.v 0) 6], .v 1] <|
 .call 86 [.c (.int .i64 (100001))] <|
 .op (.idx 5) [.cell (.v 0) 1, .v 1] <|
 .op (.elem 4 none) [.cell (.v 0) 1, .v 1] <|
 .op .len [.v 6] <|
 .loop [.c (.int .i64 (0)), .cell (.v 4) 0, .cell (.v 4) 1] (
  .op (.bin .lss) [.v 8, .v 7] <|
  .ite (.v 11) (.op (.idx 4) [.v 6, .v 8] <|
   .op (.elem 0 (some 4)) [.v 6, .v 8] <|
   .op (.mx true) [.cell (.v 2) 0, .cell (.v 13) 0] <|
   .op (.bin .add) [.v 14, .cell (.v 3) 0] <|
   .op (.bin .sub) [.v 15, .c (.int .i64 (1))] <|
   .op (.bin .leq) [.v 16, .cell (.v 13) 3] <|
   .blk (
    .ite (.v 17) (.op (.listOf 1 2 [.int .i64 (0)] [0, 1]) [.v 9, .v 14] <|
     .call 143 [.v 18] <|
     .flat (.v 19) <|
     .leaf 0) <|
    .leaf 1) [([.v 19], 0), ([.v 9], 0)] [.op (.mx true) [.cell (.v 2) 1, .cell (.v 13) 1] <|
    .op (.bin .add) [.v 19, .cell (.v 3) 1] <|
    .op (.bin .sub) [.v 20, .c (.int .i64 (1))] <|
    .op (.bin .leq) [.v 21, .cell (.v 13) 2] <|
    .blk (
     .ite (.v 22) (.op (.listOf 1 2 [.int .i64 (0)] [0, 1]) [.v 10, .v 19] <|
      .call 143 [.v 23] <|
      .flat (.v 24) <|
      .leaf 0) <|
     .leaf 1) [([.v 24], 0), ([.v 10], 0)] [.op (.bin .add) [.v 8, .c (.int .i64 (1))] <|
     .leaf 0]]) <|
  .leaf 1) [([.v 24, .v 18, .v 23], none), ([.v 9, .v 10], some 0)] [.leaf 0],
 [.node [.v 8, .v 9]], .node [.e, .e]⟩
def F86 : Fn := ⟨[none],
 .leaf 0,
 [.node [.v 0, .v 0]], .node [.e, .e]⟩
def F87 : Fn := ⟨[(some 2)],
 .leaf 0,
 [.node [.cell (.v 0) 0, .cell (.v 0) 1]], .node [.e, .e]⟩
def F88 : Fn := ⟨[(some 7), none],
 .op (.idx 5) [.cell (.v 0) 1, .v 1] <|
 .op (.elem 2 (some 2)) [.cell (.v 0) 1, .v 1] <|
 .call 144 [.cell (.v 3) 0, .cell (.v 0) 3] <|
 .call 144 [.cell (.v 3) 1, .cell (.v 0) 2] <|
 .leaf 0,
 [.node [.v 4, .v 5]], .node [.e, .e]⟩
def F131 : Fn := ⟨[none, none],
 .op .len [.v 1] <|
 .op (.bin .sub) [.v 2, .c (.int .i64 (1))] <|
 .call 142 [.v 0, .c (.int .i64 (0)), .v 3] <|
 .leaf 0,
 [.v 4], .e⟩
def F133 : Fn := ⟨[(some 2)],
 .call 184 [.node [.cell (.v 0) 0, .cell (.v 0) 1]] <|
 .op (.un .not) [.v 1] <|
 .ite (.v 2) (.leaf 0) <|
 .leaf 1,
 [.c (.int .i64 (30)), .c (.int .i64 (0))], .e⟩
def F136 : Fn := ⟨[(some 2)],
 .blk (
  .op .len [.cell (.v 0) 0] <|
  .call 185 [.v 1, .c (.int .i64 (1)), .c (.int .i64 (12))] <|
  .op (.un .not) [.v 2] <|
  .ite (.v 3) (.leaf 0) <|
  .op .len [.cell (.v 0) 1] <|
  .op (.bin .gtr) [.v 4, .c (.int .i64 (24))] <|
  .leaf 1) [([.c (.bool true)], 0), ([.v 5], 0)] [.ite (.v 1) (.leaf 0) <|
  .loop [.c (.int .i64 (0))] (
   .op .len [.cell (.v 0) 0] <|
   .op (.bin .lss) [.v 2, .v 3] <|
   .ite (.v 4) (.op (.idx 9) [.cell (.v 0) 0, .v 2] <|
    .op (.elem 0 (some 9)) [.cell (.v 0) 0, .v 2] <|
    .blk (
     .call 185 [.cell (.v 6) 0, .c (.int .i64 (-10000000)), .c (.int .i64 (10000000))] <|
     .op (.un .not) [.v 7] <|
     .ite (.v 8) (.leaf 0) <|
     .call 185 [.cell (.v 6) 1, .c (.int .i64 (-10000000)), .c (.int .i64 (10000000))] <|
     .op (.un .not) [.v 9] <|
     .ite (.v 10) (.leaf 1) <|
     .call 185 [.cell (.v 6) 2, .c (.int .i64 (0)), .c (.int .i64 (200))] <|
     .op (.un .not) [.v 11] <|
     .ite (.v 12) (.leaf 2) <|
     .call 137 [.node [.cell (.v 6) 3, .cell (.v 6) 4], .c (.int .i64 (0)), .c (.int .i64 (10000000))] <|
     .op (.un .not) [.v 13] <|
     .ite (.v 14) (.leaf 3) <|
     .call 185 [.cell (.v 6) 5, .c (.int .i64 (0)), .c (.int .i64 (1000000000))] <|
     .op (.un .not) [.v 15] <|
     .ite (.v 16) (.leaf 4) <|
     .call 137 [.node [.cell (.v 6) 6, .cell (.v 6) 7], .c (.int .i64 (0)), .cell (.v 6) 5] <|
     .op (.un .not) [.v 17] <|
     .ite (.v 18) (.leaf 5) <|
     .call 185 [.cell (.v 6) 8, .c (.int .i64 (0)), .c (.int .i64 (9999))] <|
     .op (.un .not) [.v 19] <|
     .leaf 6) [([.c (.bool true)], 0), ([.c (.bool true)], 0), ([.c (.bool true)], 0), ([.c (.bool true)], 0), ([.c (.bool true)], 0), ([.c (.bool true)], 0), ([.v 20], 0)] [.ite (.v 7) (.leaf 0) <|
     .op (.bin .add) [.v 2, .c (.int .i64 (1))] <|
     .leaf 1]) <|
   .leaf 2) [([], some 0), ([.v 8], none), ([], some 1)] [.leaf 1,
   .loop [.c (.int .i64 (0))] (
    .op .len [.cell (.v 0) 1] <|
    .op (.bin .lss) [.v 2, .v 3] <|
    .ite (.v 4) (.blk (
      .op (.idx 5) [.cell (.v 0) 1, .v 2] <|
      .op (.elem 0 (some 5)) [.cell (.v 0) 1, .v 2] <|
      .blk (
       .op .len [.cell (.v 0) 0] <|
       .op (.bin .sub) [.v 7, .c (.int .i64 (1))] <|
       .call 185 [.cell (.v 6) 0, .c (.int .i64 (0)), .v 8] <|
       .op (.un .not) [.v 9] <|
       .ite (.v 10) (.leaf 0) <|
       .op .len [.cell (.v 0) 0] <|
       .op (.bin .sub) [.v 11, .c (.int .i64 (1))] <|
       .call 185 [.cell (.v 6) 1, .c (.int .i64 (0)), .v 12] <|
       .op (.un .not) [.v 13] <|
       .ite (.v 14) (.leaf 1) <|
       .op (.bin .eql) [.cell (.v 6) 0, .cell (.v 6) 1] <|
       .ite (.v 15) (.leaf 2) <|
       .call 137 [.node [.cell (.v 6) 2, .cell (.v 6) 3], .c (.int .i64 (1)), .c (.int .i64 (1000000))] <|
       .op (.un .not) [.v 16] <|
       .ite (.v 17) (.leaf 3) <|
       .op .len [.cell (.v 6) 4] <|
       .op (.bin .gtr) [.v 18, .c (.int .i64 (6))] <|
       .leaf 4) [([.c (.bool true)], 0), ([.c (.bool true)], 0), ([.c (.bool true)], 0), ([.c (.bool true)], 0), ([.v 19], 0)] [.ite (.v 7) (.leaf 0) <|
       .loop [.c (.int .i64 (-1)), .c (.int .i64 (0))] (
        .op .len [.cell (.v 6) 4] <|
        .op (.bin .lss) [.v 9, .v 10] <|
        .ite (.v 11) (.op (.idx 4) [.cell (.v 6) 4, .v 9] <|
         .op (.elem 0 (some 4)) [.cell (.v 6) 4, .v 9] <|
         .blk (
          .call 137 [.node [.cell (.v 13) 0, .cell (.v 13) 1], .c (.int .i64 (0)), .c (.int .i64 (100000))] <|
          .op (.un .not) [.v 14] <|
          .ite (.v 15) (.leaf 0) <|
          .call 137 [.node [.cell (.v 13) 2, .cell (.v 13) 3], .c (.int .i64 (0)), .c (.int .i64 (100000))] <|
          .op (.un .not) [.v 16] <|
          .ite (.v 17) (.leaf 1) <|
          .op (.bin .gtr) [.cell (.v 13) 0, .cell (.v 13) 3] <|
          .ite (.v 18) (.leaf 2) <|
          .op (.bin .leq) [.cell (.v 13) 0, .v 8] <|
          .leaf 3) [([.c (.bool true)], 0), ([.c (.bool true)], 0), ([.c (.bool true)], 0), ([.v 19], 0)] [.ite (.v 14) (.leaf 0) <|
          .op (.bin .add) [.v 9, .c (.int .i64 (1))] <|
          .leaf 1]) <|
        .leaf 2) [([], some 0), ([.cell (.v 13) 3, .v 15], none), ([], some 1)] [.leaf 1,
        .leaf 2]]) [([], 0), ([], 0), ([], 1)] [.leaf 0,
      .op (.bin .add) [.v 2, .c (.int .i64 (1))] <|
      .leaf 1]) <|
    .leaf 2) [([], some 0), ([.v 5], none), ([], some 1)] [.leaf 2,
    .leaf 3]]],
 [.c (.bool false), .c (.bool false), .c (.bool false), .c (.bool true)], .e⟩
def F137 : Fn := ⟨[(some 2), none, none],
 .blk (
  .call 185 [.cell (.v 0) 0, .v 1, .cell (.v 0) 1] <|
  .ite (.v 3) (.op (.bin .leq) [.cell (.v 0) 1, .v 2] <|
   .leaf 0) <|
  .leaf 1) [([.v 4], 0), ([.c (.bool false)], 0)] [.leaf 0],
 [.v 3], .e⟩
def F138 : Fn := ⟨[(some 5), none],
 .op (.bin .eql) [.v 1, .cell (.v 0) 0] <|
 .blk (
  .ite (.v 2) (.leaf 0) <|
  .op (.bin .eql) [.v 1, .cell (.v 0) 1] <|
  .ite (.v 3) (.leaf 1) <|
  .leaf 2) [([.cell (.v 0) 1], 0), ([.cell (.v 0) 0], 0), ([], 1)] [.leaf 0,
  .leaf 1],
 [.node [.v 3, .c (.bool true)], .node [.c (.int .i64 (0)), .c (.bool false)]], .tup [.e, .e]⟩
def F139 : Fn := ⟨[(some 7), none, (some 2)],
 .call 88 [.node [.cell (.v 0) 0, .cell (.v 0) 1, .cell (.v 0) 2, .cell (.v 0) 3, .cell (.v 0) 4, .cell (.v 0) 5, .cell (.v 0) 6], .v 1] <|
 .op (.bin .add) [.cell (.v 2) 0, .cell (.v 3) 0] <|
 .op (.listOf 1 1 [.int .i64 (0)] [0]) [.v 4] <|
 .call 143 [.v 5] <|
 .flat (.v 6) <|
 .op (.bin .add) [.cell (.v 2) 1, .cell (.v 3) 1] <|
 .op (.listOf 1 1 [.int .i64 (0)] [0]) [.v 7] <|
 .call 143 [.v 8] <|
 .flat (.v 9) <|
 .leaf 0,
 [.node [.v 6, .v 9]], .node [.e, .e]⟩
def F140 : Fn := ⟨[none],
 .op .len [.v 0] <|
 .loop [.c (.int .i64 (0)), .c (.int .i64 (0))] (
  .op (.bin .lss) [.v 3, .v 1] <|
  .ite (.v 4) (.op (.idx 1) [.v 0, .v 3] <|
   .op (.elem 0 none) [.v 0, .v 3] <|
   .op .len [.v 6] <|
   .op (.bin .add) [.v 2, .v 7] <|
   .op (.bin .lss) [.v 8, .c (.int .i64 (0))] <|
   .ite (.v 9) (.fail) <|
   .op (.bin .add) [.v 3, .c (.int .i64 (1))] <|
   .leaf 0) <|
  .leaf 1) [([.v 8, .v 10], none), ([.v 2], some 0)] [.op (.bin .lss) [.v 2, .c (.int .i64 (0))] <|
  .ite (.v 3) (.fail) <|
  .op (.bin .sub) [.v 2, .c (.int .i64 (0))] <|
  .op (.bin .gtr) [.v 4, .c (.int .i64 (0))] <|
  .blk (
   .ite (.v 5) (.op (.appZ 6 48 [.int .i64 (0), .int .i64 (0), .int .i64 (0), .int .i64 (0), .int .i64 (0), .int .i64 (0)]) [.v 4] <|
    .op (.sl 6 false true) [.v 6, .c (.int .i64 (0))] <|
    .leaf 0) <|
   .leaf 1) [([.v 7], 0), ([.c (.list [])], 0)] [.op .len [.v 0] <|
   .loop [.c (.int .i64 (0)), .v 6] (
    .op (.bin .lss) [.v 8, .v 7] <|
    .ite (.v 10) (.op (.idx 1) [.v 0, .v 8] <|
     .op (.elem 0 none) [.v 0, .v 8] <|
     .op (.app 6 48) [.v 9, .v 12] <|
     .op (.bin .add) [.v 8, .c (.int .i64 (1))] <|
     .leaf 0) <|
    .leaf 1) [([.v 14, .v 13], none), ([.v 9], some 0)] [.leaf 0]]],
 [.v 8], .own 6⟩
def F141 : Fn := ⟨[(some 2), none, none],
 .blk (
  .op (.bin .leq) [.v 1, .cell (.v 0) 0] <|
  .ite (.v 3) (.op (.bin .leq) [.cell (.v 0) 0, .cell (.v 0) 1] <|
   .ite (.v 4) (.op (.bin .leq) [.cell (.v 0) 1, .v 2] <|
    .leaf 0) <|
   .leaf 1) <|
  .leaf 2) [([.v 5], 0), ([.c (.bool false)], 0), ([.c (.bool false)], 0)] [.leaf 0],
 [.v 3], .e⟩
def F142 : Fn := ⟨[none, none, none],
 .blk (
  .op (.bin .leq) [.v 1, .v 0] <|
  .ite (.v 3) (.op (.bin .leq) [.v 0, .v 2] <|
   .leaf 0) <|
  .leaf 1) [([.v 4], 0), ([.c (.bool false)], 0)] [.leaf 0],
 [.v 3], .e⟩
def F143 : Fn := ⟨[none],
 .op .len [.v 0] <|
 .loop [.c (.int .i64 (100001)), .c (.int .i64 (0))] (
  .op (.bin .lss) [.v 3, .v 1] <|
  .ite (.v 4) (.op (.idx 1) [.v 0, .v 3] <|
   .op (.elem 0 none) [.v 0, .v 3] <|
   .op (.mx false) [.v 2, .v 6] <|
   .op (.bin .add) [.v 3, .c (.int .i64 (1))] <|
   .leaf 0) <|
  .leaf 1) [([.v 7, .v 8], none), ([.v 2], some 0)] [.leaf 0],
 [.v 2], .e⟩
def F144 : Fn := ⟨[none, none],
 .op (.bin .add) [.v 0, .v 1] <|
 .op (.bin .sub) [.v 2, .c (.int .i64 (1))] <|
 .op (.bin .quo) [.v 3, .v 1] <|
 .leaf 0,
 [.v 4], .e⟩
def F184 : Fn := ⟨[(some 2)],
 .blk (
  .op .len [.cell (.v 0) 0] <|
  .call 142 [.v 1, .c (.int .i64 (1)), .c (.int .i64 (12))] <|
  .op (.un .not) [.v 2] <|
  .ite (.v 3) (.leaf 0) <|
  .op .len [.cell (.v 0) 1] <|
  .op (.bin .gtr) [.v 4, .c (.int .i64 (24))] <|
  .leaf 1) [([.c (.bool true)], 0), ([.v 5], 0)] [.ite (.v 1) (.leaf 0) <|
  .op .len [.cell (.v 0) 0] <|
  .loop [.c (.int .i64 (0))] (
   .op (.bin .lss) [.v 3, .v 2] <|
   .ite (.v 4) (.op (.idx 9) [.cell (.v 0) 0, .v 3] <|
    .op (.elem 0 (some 9)) [.cell (.v 0) 0, .v 3] <|
    .call 201 [.node [.cell (.v 6) 0, .cell (.v 6) 1, .cell (.v 6) 2, .cell (.v 6) 3, .cell (.v 6) 4, .cell (.v 6) 5, .cell (.v 6) 6, .cell (.v 6) 7, .cell (.v 6) 8]] <|
    .op (.un .not) [.v 7] <|
    .ite (.v 8) (.leaf 0) <|
    .op (.bin .add) [.v 3, .c (.int .i64 (1))] <|
    .leaf 1) <|
   .leaf 2) [([], some 0), ([.v 9], none), ([], some 1)] [.leaf 1,
   .op .len [.cell (.v 0) 1] <|
   .loop [.c (.int .i64 (0))] (
    .op (.bin .lss) [.v 4, .v 3] <|
    .ite (.v 5) (.op (.idx 5) [.cell (.v 0) 1, .v 4] <|
     .op (.elem 0 (some 5)) [.cell (.v 0) 1, .v 4] <|
     .blk (
      .call 131 [.cell (.v 7) 0, .cell (.v 0) 0] <|
      .op (.un .not) [.v 8] <|
      .ite (.v 9) (.leaf 0) <|
      .call 131 [.cell (.v 7) 1, .cell (.v 0) 0] <|
      .op (.un .not) [.v 10] <|
      .ite (.v 11) (.leaf 1) <|
      .call 202 [.node [.cell (.v 7) 0, .cell (.v 7) 1, .cell (.v 7) 2, .cell (.v 7) 3, .cell (.v 7) 4]] <|
      .op (.un .not) [.v 12] <|
      .leaf 2) [([.c (.bool true)], 0), ([.c (.bool true)], 0), ([.v 13], 0)] [.ite (.v 8) (.leaf 0) <|
      .op (.bin .add) [.v 4, .c (.int .i64 (1))] <|
      .leaf 1]) <|
    .leaf 2) [([], some 0), ([.v 9], none), ([], some 1)] [.leaf 2,
    .leaf 3]]],
 [.c (.bool false), .c (.bool false), .c (.bool false), .c (.bool true)], .e⟩
def F185 : Fn := ⟨[none, none, none],
 .blk (
  .op (.bin .geq) [.v 0, .v 1] <|
  .ite (.v 3) (.op (.bin .leq) [.v 0, .v 2] <|
   .leaf 0) <|
  .leaf 1) [([.v 4], 0), ([.c (.bool false)], 0)] [.leaf 0],
 [.v 3], .e⟩
def F201 : Fn := ⟨[(some 9)],
 .blk (
  .call 142 [.cell (.v 0) 0, .c (.int .i64 (-10000000)), .c (.int .i64 (10000000))] <|
  .ite (.v 1) (.call 142 [.cell (.v 0) 1, .c (.int .i64 (-10000000)), .c (.int .i64 (10000000))] <|
   .ite (.v 2) (.call 142 [.cell (.v 0) 2, .c (.int .i64 (0)), .c (.int .i64 (200))] <|
    .ite (.v 3) (.call 141 [.node [.cell (.v 0) 3, .cell (.v 0) 4], .c (.int .i64 (0)), .c (.int .i64 (10000000))] <|
     .ite (.v 4) (.call 142 [.cell (.v 0) 5, .c (.int .i64 (0)), .c (.int .i64 (1000000000))] <|
      .ite (.v 5) (.call 141 [.node [.cell (.v 0) 6, .cell (.v 0) 7], .c (.int .i64 (0)), .cell (.v 0) 5] <|
       .ite (.v 6) (.call 142 [.cell (.v 0) 8, .c (.int .i64 (0)), .c (.int .i64 (9999))] <|
        .leaf 0) <|
       .leaf 1) <|
      .leaf 2) <|
     .leaf 3) <|
    .leaf 4) <|
   .leaf 5) <|
  .leaf 6) [([.v 7], 0), ([.c (.bool false)], 0), ([.c (.bool false)], 0), ([.c (.bool false)], 0), ([.c (.bool false)], 0), ([.c (.bool false)], 0), ([.c (.bool false)], 0)] [.leaf 0],
 [.v 1], .e⟩
def F202 : Fn := ⟨[(some 5)],
 .blk (
  .op (.bin .neq) [.cell (.v 0) 0, .cell (.v 0) 1] <|
  .ite (.v 1) (.call 141 [.node [.cell (.v 0) 2, .cell (.v 0) 3], .c (.int .i64 (1)), .c (.int .i64 (1000000))] <|
   .ite (.v 2) (.call 205 [.cell (.v 0) 4] <|
    .leaf 0) <|
   .leaf 1) <|
  .leaf 2) [([.v 3], 0), ([.c (.bool false)], 0), ([.c (.bool false)], 0)] [.leaf 0],
 [.v 1], .e⟩
def F205 : Fn := ⟨[none],
 .op .len [.v 0] <|
 .op (.bin .gtr) [.v 1, .c (.int .i64 (6))] <|
 .ite (.v 2) (.leaf 0) <|
 .op .len [.v 0] <|
 .loop [.c (.int .i64 (-1)), .c (.int .i64 (0))] (
  .op (.bin .lss) [.v 5, .v 3] <|
  .ite (.v 6) (.op (.idx 4) [.v 0, .v 5] <|
   .op (.elem 0 (some 4)) [.v 0, .v 5] <|
   .blk (
    .call 141 [.node [.cell (.v 8) 0, .cell (.v 8) 1], .c (.int .i64 (0)), .c (.int .i64 (100000))] <|
    .op (.un .not) [.v 9] <|
    .ite (.v 10) (.leaf 0) <|
    .call 141 [.node [.cell (.v 8) 2, .cell (.v 8) 3], .c (.int .i64 (0)), .c (.int .i64 (100000))] <|
    .op (.un .not) [.v 11] <|
    .ite (.v 12) (.leaf 1) <|
    .op (.bin .gtr) [.cell (.v 8) 0, .cell (.v 8) 3] <|
    .ite (.v 13) (.leaf 2) <|
    .op (.bin .leq) [.cell (.v 8) 0, .v 4] <|
    .leaf 3) [([.c (.bool true)], 0), ([.c (.bool true)], 0), ([.c (.bool true)], 0), ([.v 14], 0)] [.ite (.v 9) (.leaf 0) <|
    .op (.bin .add) [.v 5, .c (.int .i64 (1))] <|
    .leaf 1]) <|
  .leaf 2) [([], some 0), ([.cell (.v 8) 3, .v 10], none), ([], some 1)] [.leaf 1,
  .leaf 2],
 [.c (.bool false), .c (.bool false), .c (.bool true)], .e⟩
def FN (f : FuncId) : Option Fn :=
  match f with
  | 4 => some F4
  | 13 => some F13
  | 14 => some F14
  | 15 => some F15
  | 17 => some F17
  | 18 => some F18
  | 19 => some F19
  | 20 => some F20
  | 68 => some F68
  | 73 => some F73
  | 74 => some F74
  | 75 => some F75
  | 76 => some F76
  | 77 => some F77
  | 78 => some F78
  | 79 => some F79
  | 80 => some F80
  | 82 => some F82
  | 83 => some F83
  | 84 => some F84
  | 85 => some F85
  | 86 => some F86
  | 87 => some F87
  | 88 => some F88
  | 131 => some F131
  | 133 => some F133
  | 136 => some F136
  | 137 => some F137
  | 138 => some F138
  | 139 => some F139
  | 140 => some F140
  | 141 => some F141
  | 142 => some F142
  | 143 => some F143
  | 144 => some F144
  | 184 => some F184
  | 185 => some F185
  | 201 => some F201
  | 202 => some F202
  | 205 => some F205
  | _ => none
end Go.Q
