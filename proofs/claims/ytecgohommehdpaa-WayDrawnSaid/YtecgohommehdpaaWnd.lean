/- The functions as trees. -/
import Derived.Test.YtecgohommehdpaaJL
import Derived.Test.YtecgohommehdpaaChecked
set_option linter.unusedVariables false
set_option maxRecDepth 100000
namespace Go.Q
open Go.V
open Go.Proofs.Try (prog)
def isRef (f : FuncId) : Bool := [16, 137].contains f
def dmR (f : FuncId) : Nat := ([((0 : FuncId), 0)].find? (·.1 == f)).elim 0 (·.2)
noncomputable def TP : FuncId → Option IFn := fun f => cFnD prog (isRef f) (dmR f) f
theorem cFn_ref {P : Program} {b : Bool} {dm : Nat} {f : FuncId} {fn : IFn} (h : cFnD P b dm f = some fn) : fn.byref = b ∧ fn.dm = dm := by
  unfold cFnD at h
  split at h
  · cases h
  · split at h
    · cases h
    · split at h
      · cases h
      · split at h
        · cases h; exact ⟨rfl, rfl⟩
        · cases h
theorem TP_ok : TOK prog TP := fun f fn h => by
  obtain ⟨h1, h2⟩ := cFn_ref h
  rw [h1, h2]; exact h
theorem mixed : prog.follows .mixedOrders = true := by kernel_rfl
def F7 : Fn := ⟨[(some 2), none, none, none, none],
 .call 24 [] <|
 .op (.un .not) [.v 5] <|
 .ite (.v 6) (.leaf 0) <|
 .blk (
  .call 15 [.node [.cell (.v 0) 0, .cell (.v 0) 1]] <|
  .ite (.v 7) (.leaf 0) <|
  .call 22 [.node [.cell (.v 0) 0, .cell (.v 0) 1]] <|
  .op (.bin .neq) [.v 8, .c (.int .i64 (0))] <|
  .ite (.v 9) (.leaf 1) <|
  .op (.bin .lss) [.v 1, .c (.int .i64 (0))] <|
  .ite (.v 10) (.leaf 2) <|
  .op .len [.cell (.v 0) 0] <|
  .op (.bin .geq) [.v 1, .v 11] <|
  .ite (.v 12) (.leaf 3) <|
  .op .len [.v 2] <|
  .op (.bin .gtr) [.v 13, .c (.int .i64 (200))] <|
  .ite (.v 14) (.leaf 4) <|
  .call 34 [.node [.cell (.v 0) 0, .cell (.v 0) 1], .v 2] <|
  .op (.un .not) [.v 15] <|
  .leaf 5) [([.c (.bool true)], 0), ([.c (.bool true)], 0), ([.c (.bool true)], 0), ([.c (.bool true)], 0), ([.c (.bool true)], 0), ([.v 16], 0)] [.ite (.v 7) (.leaf 1) <|
  .op (.idx 9) [.cell (.v 0) 0, .v 1] <|
  .op (.elem 0 (some 9)) [.cell (.v 0) 0, .v 1] <|
  .call 32 [.v 4, .c (.int .i64 (0))] <|
  .call 31 [.node [.cell (.v 9) 6, .cell (.v 9) 7], .v 10] <|
  .op (.conv .i64) [.v 3] <|
  .loop [.v 11, .c (.int .i64 (0)), .c (.int .i64 (0)), .c (.int .i64 (0)), .c (.bool true), .c (.int .i64 (0))] (
   .op (.bin .lss) [.v 18, .v 12] <|
   .ite (.v 19) (.op (.bin .add) [.v 18, .c (.int .i64 (1))] <|
    .call 32 [.v 4, .v 20] <|
    .call 31 [.node [.cell (.v 9) 3, .cell (.v 9) 4], .v 21] <|
    .op (.bin .add) [.v 14, .v 22] <|
    .op (.bin .add) [.v 13, .v 22] <|
    .op (.bin .sub) [.v 24, .cell (.v 9) 5] <|
    .op (.mx true) [.c (.int .i64 (0)), .v 25] <|
    .op (.bin .add) [.v 15, .v 26] <|
    .op (.bin .add) [.v 13, .v 22] <|
    .op (.mx false) [.cell (.v 9) 5, .v 28] <|
    .op .len [.v 2] <|
    .loop [.v 29, .v 16, .v 17, .c (.int .i64 (0))] (
     .op (.bin .lss) [.v 34, .v 30] <|
     .ite (.v 35) (.op (.idx 3) [.v 2, .v 34] <|
      .op (.elem 0 (some 3)) [.v 2, .v 34] <|
      .blk (
       .op (.bin .eql) [.cell (.v 37) 0, .v 1] <|
       .ite (.v 38) (.op (.bin .eql) [.cell (.v 37) 1, .v 18] <|
        .leaf 0) <|
       .leaf 1) [([.v 39], 0), ([.c (.bool false)], 0)] [.blk (
        .ite (.v 38) (.op (.bin .gtr) [.cell (.v 37) 2, .v 31] <|
         .blk (
          .ite (.v 39) (.leaf 0) <|
          .leaf 1) [([.c (.bool false)], 0), ([.v 33], 0)] [.op (.bin .sub) [.v 31, .cell (.v 37) 2] <|
          .op (.bin .add) [.v 32, .cell (.v 37) 2] <|
          .leaf 0]) <|
        .leaf 1) [([.v 41, .v 42, .v 40], 0), ([.v 31, .v 32, .v 33], 0)] [.op (.bin .add) [.v 34, .c (.int .i64 (1))] <|
        .leaf 0]]) <|
     .leaf 1) [([.v 39, .v 40, .v 41, .v 42], none), ([.v 31, .v 32, .v 33], some 0)] [.op (.un .not) [.v 33] <|
     .ite (.v 34) (.leaf 0) <|
     .op (.bin .add) [.v 18, .c (.int .i64 (1))] <|
     .leaf 1]) <|
   .leaf 2) [([.v 31, .v 23, .v 27, .v 32, .v 33], some 0), ([.v 31, .v 23, .v 27, .v 32, .v 33, .v 35], none), ([.v 13, .v 14, .v 15, .v 16, .v 17], some 0)] [.op (.conv .i64) [.v 3] <|
   .call 35 [.node [.cell (.v 0) 0, .cell (.v 0) 1], .v 1, .v 2, .v 18] <|
   .op (.bin .neq) [.cell (.v 19) 2, .c (.int .i64 (0))] <|
   .ite (.v 20) (.blk (
     .ite (.v 5) (.op (.bin .eql) [.cell (.v 19) 2, .c (.int .i64 (33))] <|
      .ite (.v 21) (.op (.un .not) [.v 17] <|
       .ite (.v 22) (.op (.bin .geq) [.cell (.v 19) 1, .c (.int .i64 (0))] <|
        .ite (.v 23) (.op .len [.v 2] <|
         .op (.bin .lss) [.cell (.v 19) 1, .v 24] <|
         .ite (.v 25) (.op (.idx 3) [.v 2, .cell (.v 19) 1] <|
          .op (.elem 0 none) [.v 2, .cell (.v 19) 1] <|
          .op (.bin .eql) [.v 27, .v 1] <|
          .ite (.v 28) (.op (.idx 3) [.v 2, .cell (.v 19) 1] <|
           .op (.elem 1 none) [.v 2, .cell (.v 19) 1] <|
           .op (.conv .i64) [.v 3] <|
           .op (.bin .lss) [.v 30, .v 31] <|
           .leaf 0) <|
          .leaf 1) <|
         .leaf 2) <|
        .leaf 3) <|
       .leaf 4) <|
      .leaf 5) <|
     .leaf 6) [([.v 32], 0), ([.c (.bool false)], 0), ([.c (.bool false)], 0), ([.c (.bool false)], 0), ([.c (.bool false)], 0), ([.c (.bool false)], 0), ([.c (.bool false)], 0)] [.leaf 2]) <|
   .blk (
    .op (.bin .lss) [.cell (.cell (.v 19) 0) 0, .c (.int .i64 (0))] <|
    .ite (.v 21) (.leaf 0) <|
    .op (.bin .gtr) [.cell (.cell (.v 19) 0) 0, .cell (.cell (.v 19) 0) 1] <|
    .ite (.v 22) (.leaf 1) <|
    .op (.bin .gtr) [.cell (.cell (.v 19) 0) 1, .cell (.v 9) 5] <|
    .leaf 2) [([.c (.bool true)], 0), ([.c (.bool true)], 0), ([.v 23], 0)] [.ite (.v 21) (.leaf 3) <|
    .blk (
     .ite (.v 5) (.op (.un .not) [.v 17] <|
      .ite (.v 22) (.leaf 0) <|
      .op (.bin .add) [.v 13, .v 16] <|
      .op (.bin .add) [.v 23, .v 15] <|
      .op (.bin .add) [.v 11, .v 14] <|
      .op (.bin .eql) [.v 24, .v 25] <|
      .ite (.v 26) (.op (.bin .geq) [.v 13, .cell (.cell (.v 19) 0) 0] <|
       .ite (.v 27) (.op (.bin .leq) [.v 13, .cell (.cell (.v 19) 0) 1] <|
        .leaf 1) <|
       .leaf 2) <|
      .leaf 3) <|
     .leaf 4) [([.c (.bool true)], 0), ([.v 28], 0), ([.c (.bool false)], 0), ([.c (.bool false)], 0), ([.c (.bool false)], 0)] [.leaf 4]]]],
 [.c (.bool false), .v 5, .v 21, .c (.bool false), .v 22], .e⟩
def F8 : Fn := ⟨[(some 2), none, none, none, none, none, none, none],
 .call 24 [] <|
 .op (.un .not) [.v 8] <|
 .ite (.v 9) (.leaf 0) <|
 .blk (
  .call 15 [.node [.cell (.v 0) 0, .cell (.v 0) 1]] <|
  .ite (.v 10) (.leaf 0) <|
  .call 22 [.node [.cell (.v 0) 0, .cell (.v 0) 1]] <|
  .op (.bin .neq) [.v 11, .c (.int .i64 (0))] <|
  .ite (.v 12) (.leaf 1) <|
  .op (.bin .lss) [.v 1, .c (.int .i64 (0))] <|
  .ite (.v 13) (.leaf 2) <|
  .op .len [.cell (.v 0) 0] <|
  .op (.bin .geq) [.v 1, .v 14] <|
  .ite (.v 15) (.leaf 3) <|
  .op .len [.v 2] <|
  .op (.bin .gtr) [.v 16, .c (.int .i64 (200))] <|
  .ite (.v 17) (.leaf 4) <|
  .call 34 [.node [.cell (.v 0) 0, .cell (.v 0) 1], .v 2] <|
  .op (.un .not) [.v 18] <|
  .ite (.v 19) (.leaf 5) <|
  .op (.bin .lss) [.v 3, .c (.int .i64 (0))] <|
  .ite (.v 20) (.leaf 6) <|
  .op (.bin .gtr) [.v 3, .c (.int .i64 (100000))] <|
  .leaf 7) [([.c (.bool true)], 0), ([.c (.bool true)], 0), ([.c (.bool true)], 0), ([.c (.bool true)], 0), ([.c (.bool true)], 0), ([.c (.bool true)], 0), ([.c (.bool true)], 0), ([.v 21], 0)] [.ite (.v 10) (.leaf 1) <|
  .call 35 [.node [.cell (.v 0) 0, .cell (.v 0) 1], .v 1, .v 2, .v 3] <|
  .blk (
   .op (.bin .neq) [.cell (.v 11) 2, .c (.int .i64 (0))] <|
   .ite (.v 12) (.op (.bin .neq) [.cell (.v 11) 2, .c (.int .i64 (33))] <|
    .leaf 0) <|
   .leaf 1) [([.v 13], 0), ([.c (.bool false)], 0)] [.ite (.v 12) (.leaf 2) <|
   .blk (
    .op (.bin .eql) [.cell (.v 11) 2, .c (.int .i64 (0))] <|
    .ite (.v 13) (.op .len [.v 2] <|
     .op (.bin .lss) [.v 14, .c (.int .i64 (200))] <|
     .ite (.v 15) (.op .len [.v 2] <|
      .op (.bin .eql) [.v 16, .c (.int .i64 (0))] <|
      .ite (.v 17) (.op (.bin .gtr) [.v 3, .c (.int .i64 (0))] <|
       .leaf 0) <|
      .op .len [.v 2] <|
      .op (.bin .sub) [.v 18, .c (.int .i64 (1))] <|
      .op (.idx 3) [.v 2, .v 19] <|
      .op (.elem 1 none) [.v 2, .v 19] <|
      .op (.bin .lss) [.v 21, .v 3] <|
      .ite (.v 22) (.op (.bin .gtr) [.v 3, .c (.int .i64 (0))] <|
       .leaf 1) <|
      .leaf 2) <|
     .leaf 3) <|
    .leaf 4) [([.v 18], 0), ([.v 23], 0), ([.c (.bool false)], 0), ([.c (.bool false)], 0), ([.c (.bool false)], 0)] [.blk (
     .ite (.v 13) (.op (.app 3 24) [.c (.list []), .v 2] <|
      .op (.bin .sub) [.v 3, .c (.int .i64 (1))] <|
      .op (.conv .i64) [.v 4] <|
      .op (.listOf 3 1 [.int .i64 (0), .int .i64 (0), .int .i64 (0)] [0]) [.v 1, .v 15, .v 16] <|
      .op (.app 3 24) [.v 14, .v 17] <|
      .call 35 [.node [.cell (.v 0) 0, .cell (.v 0) 1], .v 1, .v 18, .v 3] <|
      .flat (.cell (.cell (.v 19) 0) 0) <|
      .flat (.cell (.cell (.v 19) 0) 1) <|
      .flat (.cell (.v 19) 1) <|
      .flat (.cell (.v 19) 2) <|
      .blk (
       .op (.bin .neq) [.cell (.v 19) 2, .c (.int .i64 (0))] <|
       .ite (.v 20) (.op (.bin .neq) [.cell (.v 19) 2, .c (.int .i64 (33))] <|
        .ite (.v 21) (.leaf 0) <|
        .op (.conv .i64) [.v 4] <|
        .op (.bin .geq) [.cell (.cell (.v 11) 0) 1, .v 22] <|
        .ite (.v 23) (.leaf 1) <|
        .op (.bin .eql) [.cell (.v 19) 2, .c (.int .i64 (0))] <|
        .ite (.v 24) (.op (.conv .i64) [.v 4] <|
         .op (.bin .sub) [.cell (.cell (.v 11) 0) 1, .v 25] <|
         .op (.bin .neq) [.cell (.cell (.v 19) 0) 1, .v 26] <|
         .ite (.v 27) (.leaf 2) <|
         .op (.conv .i64) [.v 4] <|
         .op (.bin .sub) [.cell (.cell (.v 11) 0) 0, .v 28] <|
         .op (.mx true) [.c (.int .i64 (0)), .v 29] <|
         .op (.bin .neq) [.cell (.cell (.v 19) 0) 0, .v 30] <|
         .leaf 3) <|
        .leaf 4) <|
       .op (.bin .eql) [.cell (.v 19) 2, .c (.int .i64 (0))] <|
       .ite (.v 21) (.op (.conv .i64) [.v 4] <|
        .op (.bin .sub) [.cell (.cell (.v 11) 0) 1, .v 22] <|
        .op (.bin .neq) [.cell (.cell (.v 19) 0) 1, .v 23] <|
        .ite (.v 24) (.leaf 5) <|
        .op (.conv .i64) [.v 4] <|
        .op (.bin .sub) [.cell (.cell (.v 11) 0) 0, .v 25] <|
        .op (.mx true) [.c (.int .i64 (0)), .v 26] <|
        .op (.bin .neq) [.cell (.cell (.v 19) 0) 0, .v 27] <|
        .leaf 6) <|
       .leaf 7) [([.c (.bool true)], 0), ([.c (.bool true)], 0), ([.c (.bool true)], 0), ([.v 31], 0), ([.c (.bool false)], 0), ([.c (.bool true)], 0), ([.v 28], 0), ([.c (.bool false)], 0)] [.ite (.v 20) (.leaf 0) <|
       .op (.bin .lss) [.v 3, .c (.int .i64 (100000))] <|
       .blk (
        .ite (.v 21) (.op (.bin .add) [.v 3, .c (.int .i64 (1))] <|
         .call 35 [.node [.cell (.v 0) 0, .cell (.v 0) 1], .v 1, .v 2, .v 22] <|
         .op (.idx 9) [.cell (.v 0) 0, .v 1] <|
         .op (.elem 0 (some 9)) [.cell (.v 0) 0, .v 1] <|
         .blk (
          .op (.bin .neq) [.cell (.v 23) 2, .c (.int .i64 (0))] <|
          .ite (.v 26) (.leaf 0) <|
          .op (.bin .add) [.cell (.cell (.v 11) 0) 0, .cell (.v 25) 3] <|
          .op (.mx false) [.cell (.v 25) 5, .v 27] <|
          .op (.bin .add) [.cell (.cell (.v 11) 0) 1, .cell (.v 25) 4] <|
          .op (.mx false) [.cell (.v 25) 5, .v 29] <|
          .call 36 [.v 28, .v 30] <|
          .op (.eqv true [false, false]) [.cell (.cell (.v 23) 0) 0, .cell (.cell (.v 23) 0) 1, .cell (.v 31) 0, .cell (.v 31) 1] <|
          .leaf 1) [([.c (.bool true)], 0), ([.v 32], 0)] [.ite (.v 26) (.leaf 0) <|
          .leaf 1]) <|
        .leaf 2) [([], 0), ([], 1), ([], 1)] [.leaf 1,
        .leaf 2]]) <|
     .leaf 3) [([], 0), ([], 0), ([], 1), ([], 1)] [.leaf 3,
     .blk (
      .op (.bin .lss) [.v 5, .c (.int .i64 (0))] <|
      .ite (.v 14) (.leaf 0) <|
      .op (.bin .lss) [.v 6, .c (.int .i64 (0))] <|
      .ite (.v 15) (.leaf 1) <|
      .op (.bin .gtr) [.v 5, .c (.int .i64 (1000000000))] <|
      .ite (.v 16) (.leaf 2) <|
      .op (.bin .sub) [.c (.int .i64 (1000000000)), .v 5] <|
      .op (.bin .gtr) [.v 6, .v 17] <|
      .ite (.v 18) (.leaf 3) <|
      .op (.bin .lss) [.v 7, .c (.int .i64 (1))] <|
      .ite (.v 19) (.leaf 4) <|
      .op (.bin .gtr) [.v 7, .c (.int .i64 (100))] <|
      .leaf 5) [([.c (.bool true)], 0), ([.c (.bool true)], 0), ([.c (.bool true)], 0), ([.c (.bool true)], 0), ([.c (.bool true)], 0), ([.v 20], 0)] [.ite (.v 14) (.leaf 4) <|
      .call 37 [.node [.cell (.v 0) 0, .cell (.v 0) 1], .v 1, .v 5, .v 7] <|
      .call 37 [.node [.cell (.v 0) 0, .cell (.v 0) 1], .v 1, .v 6, .v 7] <|
      .op (.bin .add) [.v 5, .v 6] <|
      .call 37 [.node [.cell (.v 0) 0, .cell (.v 0) 1], .v 1, .v 17, .v 7] <|
      .op (.bin .add) [.v 5, .v 6] <|
      .op (.idx 9) [.cell (.v 0) 0, .v 1] <|
      .op (.elem 2 none) [.cell (.v 0) 0, .v 1] <|
      .op (.bin .mul) [.v 19, .v 21] <|
      .blk (
       .ite (.v 8) (.op (.bin .eql) [.cell (.v 15) 1, .c (.int .i64 (0))] <|
        .ite (.v 23) (.op (.bin .eql) [.cell (.v 16) 1, .c (.int .i64 (0))] <|
         .ite (.v 24) (.op (.bin .eql) [.cell (.v 18) 1, .c (.int .i64 (0))] <|
          .ite (.v 25) (.op (.bin .add) [.cell (.v 15) 0, .cell (.v 16) 0] <|
           .op (.bin .leq) [.cell (.v 18) 0, .v 26] <|
           .ite (.v 27) (.op (.bin .add) [.cell (.v 18) 0, .c (.int .i64 (1))] <|
            .op (.bin .add) [.cell (.v 15) 0, .cell (.v 16) 0] <|
            .op (.bin .geq) [.v 28, .v 29] <|
            .ite (.v 30) (.op (.bin .mul) [.cell (.v 18) 0, .v 7] <|
             .op (.bin .mul) [.v 31, .c (.int .i64 (1000000))] <|
             .op (.bin .geq) [.v 32, .v 22] <|
             .ite (.v 33) (.op (.bin .eql) [.cell (.v 18) 0, .c (.int .i64 (0))] <|
              .ite (.v 34) (.leaf 0) <|
              .op (.bin .sub) [.cell (.v 18) 0, .c (.int .i64 (1))] <|
              .op (.bin .mul) [.v 35, .v 7] <|
              .op (.bin .mul) [.v 36, .c (.int .i64 (1000000))] <|
              .op (.bin .lss) [.v 37, .v 22] <|
              .leaf 1) <|
             .leaf 2) <|
            .leaf 3) <|
           .leaf 4) <|
          .leaf 5) <|
         .leaf 6) <|
        .leaf 7) <|
       .leaf 8) [([.c (.bool true)], 0), ([.v 38], 0), ([.c (.bool false)], 0), ([.c (.bool false)], 0), ([.c (.bool false)], 0), ([.c (.bool false)], 0), ([.c (.bool false)], 0), ([.c (.bool false)], 0), ([.c (.bool false)], 0)] [.leaf 5]]]]]],
 [.c (.bool false), .v 8, .c (.bool false), .c (.bool false), .v 8, .v 23], .e⟩
def F15 : Fn := ⟨[(some 2)],
 .blk (
  .op .len [.cell (.v 0) 0] <|
  .op (.bin .gtr) [.v 1, .c (.int .i64 (20))] <|
  .ite (.v 2) (.leaf 0) <|
  .op .len [.cell (.v 0) 1] <|
  .op (.bin .gtr) [.v 3, .c (.int .i64 (40))] <|
  .leaf 1) [([.c (.bool true)], 0), ([.v 4], 0)] [.ite (.v 1) (.leaf 0) <|
  .loop [.c (.int .i64 (0))] (
   .op .len [.cell (.v 0) 1] <|
   .op (.bin .lss) [.v 2, .v 3] <|
   .ite (.v 4) (.op (.idx 5) [.cell (.v 0) 1, .v 2] <|
    .op (.elem 4 none) [.cell (.v 0) 1, .v 2] <|
    .op .len [.v 6] <|
    .op (.bin .gtr) [.v 7, .c (.int .i64 (20))] <|
    .ite (.v 8) (.leaf 0) <|
    .op (.bin .add) [.v 2, .c (.int .i64 (1))] <|
    .leaf 1) <|
   .leaf 2) [([], some 0), ([.v 9], none), ([], some 1)] [.leaf 1,
   .leaf 2]],
 [.c (.bool true), .c (.bool true), .c (.bool false)], .e⟩
def F21 : Fn := ⟨[(some 2)],
 .call 77 [.node [.cell (.v 0) 0, .cell (.v 0) 1]] <|
 .op (.un .not) [.v 1] <|
 .ite (.v 2) (.leaf 0) <|
 .leaf 1,
 [.c (.int .i64 (30)), .c (.int .i64 (0))], .e⟩
def F22 : Fn := ⟨[(some 2)],
 .call 78 [.node [.cell (.v 0) 0, .cell (.v 0) 1]] <|
 .op (.un .not) [.v 1] <|
 .ite (.v 2) (.leaf 0) <|
 .leaf 1,
 [.c (.int .i64 (30)), .c (.int .i64 (0))], .e⟩
def F24 : Fn := ⟨[],
 .leaf 0,
 [.c (.bool true)], .e⟩
def F31 : Fn := ⟨[(some 2), none],
 .op (.conv .i64) [.v 1] <|
 .op (.bin .sub) [.cell (.v 0) 1, .cell (.v 0) 0] <|
 .op (.bin .add) [.v 3, .c (.int .i64 (1))] <|
 .op (.bin .rem) [.v 2, .v 4] <|
 .op (.bin .add) [.cell (.v 0) 0, .v 5] <|
 .leaf 0,
 [.v 6], .e⟩
def F32 : Fn := ⟨[none, none],
 .op .len [.v 0] <|
 .op (.bin .eql) [.v 2, .c (.int .i64 (0))] <|
 .ite (.v 3) (.leaf 0) <|
 .op .len [.v 0] <|
 .op (.bin .rem) [.v 1, .v 4] <|
 .op (.idx 1) [.v 0, .v 5] <|
 .op (.elem 0 none) [.v 0, .v 5] <|
 .leaf 1,
 [.c (.int .u32 (0)), .v 7], .e⟩
def F34 : Fn := ⟨[(some 2), none],
 .loop [.c (.int .i64 (0))] (
  .op .len [.v 1] <|
  .op (.bin .lss) [.v 2, .v 3] <|
  .ite (.v 4) (.op (.idx 3) [.v 1, .v 2] <|
   .op (.elem 0 (some 3)) [.v 1, .v 2] <|
   .blk (
    .op .len [.cell (.v 0) 0] <|
    .op (.bin .sub) [.v 7, .c (.int .i64 (1))] <|
    .call 70 [.cell (.v 6) 0, .c (.int .i64 (0)), .v 8] <|
    .op (.un .not) [.v 9] <|
    .ite (.v 10) (.leaf 0) <|
    .call 70 [.cell (.v 6) 1, .c (.int .i64 (0)), .c (.int .i64 (100000))] <|
    .op (.un .not) [.v 11] <|
    .ite (.v 12) (.leaf 1) <|
    .call 70 [.cell (.v 6) 2, .c (.int .i64 (0)), .c (.int .i64 (1000000000))] <|
    .op (.un .not) [.v 13] <|
    .ite (.v 14) (.leaf 2) <|
    .op (.bin .gtr) [.v 2, .c (.int .i64 (0))] <|
    .ite (.v 15) (.op (.bin .sub) [.v 2, .c (.int .i64 (1))] <|
     .op (.idx 3) [.v 1, .v 16] <|
     .op (.elem 1 none) [.v 1, .v 16] <|
     .op (.bin .lss) [.cell (.v 6) 1, .v 18] <|
     .leaf 3) <|
    .leaf 4) [([.c (.bool true)], 0), ([.c (.bool true)], 0), ([.c (.bool true)], 0), ([.v 19], 0), ([.c (.bool false)], 0)] [.ite (.v 7) (.leaf 0) <|
    .op (.bin .add) [.v 2, .c (.int .i64 (1))] <|
    .leaf 1]) <|
  .leaf 2) [([], some 0), ([.v 8], none), ([], some 1)] [.leaf 0,
  .leaf 1],
 [.c (.bool false), .c (.bool true)], .e⟩
def F35 : Fn := ⟨[(some 2), none, none, none],
 .call 21 [.node [.cell (.v 0) 0, .cell (.v 0) 1]] <|
 .op (.bin .neq) [.v 4, .c (.int .i64 (0))] <|
 .ite (.v 5) (.leaf 0) <|
 .blk (
  .call 94 [.v 1, .cell (.v 0) 0] <|
  .op (.un .not) [.v 6] <|
  .ite (.v 7) (.leaf 0) <|
  .call 72 [.v 3] <|
  .op (.un .not) [.v 8] <|
  .leaf 1) [([.c (.bool true)], 0), ([.v 9], 0)] [.ite (.v 6) (.leaf 1) <|
  .op .len [.v 2] <|
  .op (.bin .gtr) [.v 7, .c (.int .i64 (200))] <|
  .ite (.v 8) (.leaf 2) <|
  .call 95 [.v 2, .cell (.v 0) 0] <|
  .op (.un .not) [.v 9] <|
  .ite (.v 10) (.leaf 3) <|
  .op (.idx 9) [.cell (.v 0) 0, .v 1] <|
  .op (.elem 0 (some 9)) [.cell (.v 0) 0, .v 1] <|
  .op .len [.v 2] <|
  .loop [.c (.int .i64 (0)), .c (.int .i64 (0)), .cell (.v 12) 6, .cell (.v 12) 7] (
   .op (.bin .lss) [.v 15, .v 13] <|
   .ite (.v 18) (.blk (
     .op (.idx 3) [.v 2, .v 15] <|
     .op (.elem 0 (some 3)) [.v 2, .v 15] <|
     .blk (
      .op (.bin .neq) [.cell (.v 20) 0, .v 1] <|
      .ite (.v 21) (.leaf 0) <|
      .op (.bin .geq) [.cell (.v 20) 1, .v 3] <|
      .leaf 1) [([.c (.bool true)], 0), ([.v 22], 0)] [.ite (.v 21) (.leaf 0) <|
      .op (.bin .add) [.cell (.v 20) 1, .c (.int .i64 (1))] <|
      .op (.bin .sub) [.v 22, .v 14] <|
      .call 96 [.node [.cell (.v 12) 0, .cell (.v 12) 1, .cell (.v 12) 2, .cell (.v 12) 3, .cell (.v 12) 4, .cell (.v 12) 5, .v 16, .v 17, .cell (.v 12) 8], .v 23] <|
      .op (.bin .add) [.cell (.v 20) 1, .c (.int .i64 (1))] <|
      .op (.bin .gtr) [.cell (.v 20) 2, .cell (.v 24) 1] <|
      .ite (.v 26) (.leaf 1) <|
      .op (.bin .sub) [.cell (.v 24) 0, .cell (.v 20) 2] <|
      .op (.mx true) [.c (.int .i64 (0)), .v 27] <|
      .op (.bin .sub) [.cell (.v 24) 1, .cell (.v 20) 2] <|
      .leaf 2]) [([.v 14, .v 16, .v 17], 0), ([], 1), ([.v 25, .v 28, .v 29], 0)] [.op (.bin .add) [.v 15, .c (.int .i64 (1))] <|
     .leaf 0,
     .leaf 1]) <|
   .leaf 2) [([.v 19, .v 22, .v 20, .v 21], none), ([.v 15], some 0), ([.v 14, .v 16, .v 17], some 1)] [.leaf 4,
   .op (.bin .sub) [.v 3, .v 14] <|
   .call 96 [.node [.cell (.v 12) 0, .cell (.v 12) 1, .cell (.v 12) 2, .cell (.v 12) 3, .cell (.v 12) 4, .cell (.v 12) 5, .v 15, .v 16, .cell (.v 12) 8], .v 17] <|
   .leaf 5]],
 [.node [.node [.c (.int .i64 (0)), .c (.int .i64 (0))], .c (.int .i64 (0)), .v 4], .node [.node [.c (.int .i64 (0)), .c (.int .i64 (0))], .c (.int .i64 (0)), .c (.int .i64 (2))], .node [.node [.c (.int .i64 (0)), .c (.int .i64 (0))], .c (.int .i64 (0)), .c (.int .i64 (4))], .node [.node [.c (.int .i64 (0)), .c (.int .i64 (0))], .c (.int .i64 (0)), .c (.int .i64 (32))], .node [.node [.c (.int .i64 (0)), .c (.int .i64 (0))], .v 14, .c (.int .i64 (33))], .node [.node [.cell (.v 18) 0, .cell (.v 18) 1], .c (.int .i64 (0)), .c (.int .i64 (0))]], .tup [.node [.e, .e], .e, .e]⟩
def F36 : Fn := ⟨[none, none],
 .leaf 0,
 [.node [.v 0, .v 1]], .node [.e, .e]⟩
def F37 : Fn := ⟨[(some 2), none, none, none],
 .call 21 [.node [.cell (.v 0) 0, .cell (.v 0) 1]] <|
 .op (.bin .neq) [.v 4, .c (.int .i64 (0))] <|
 .ite (.v 5) (.leaf 0) <|
 .blk (
  .call 94 [.v 1, .cell (.v 0) 0] <|
  .op (.un .not) [.v 6] <|
  .ite (.v 7) (.leaf 0) <|
  .call 97 [.v 2, .c (.int .i64 (0)), .c (.int .i64 (1000000000))] <|
  .op (.un .not) [.v 8] <|
  .ite (.v 9) (.leaf 1) <|
  .call 97 [.v 3, .c (.int .i64 (1)), .c (.int .i64 (100))] <|
  .op (.un .not) [.v 10] <|
  .leaf 2) [([.c (.bool true)], 0), ([.c (.bool true)], 0), ([.v 11], 0)] [.ite (.v 6) (.leaf 1) <|
  .op (.idx 9) [.cell (.v 0) 0, .v 1] <|
  .op (.elem 2 none) [.cell (.v 0) 0, .v 1] <|
  .op (.bin .mul) [.v 2, .v 8] <|
  .op (.bin .mul) [.c (.int .i64 (1000000)), .v 3] <|
  .call 98 [.v 9, .v 10] <|
  .leaf 2],
 [.node [.c (.int .i64 (0)), .v 4], .node [.c (.int .i64 (0)), .c (.int .i64 (2))], .node [.v 11, .c (.int .i64 (0))]], .tup [.e, .e]⟩
def F70 : Fn := ⟨[none, none, none],
 .blk (
  .op (.bin .geq) [.v 0, .v 1] <|
  .ite (.v 3) (.op (.bin .leq) [.v 0, .v 2] <|
   .leaf 0) <|
  .leaf 1) [([.v 4], 0), ([.c (.bool false)], 0)] [.leaf 0],
 [.v 3], .e⟩
def F72 : Fn := ⟨[none],
 .call 97 [.v 0, .c (.int .i64 (0)), .c (.int .i64 (100000))] <|
 .leaf 0,
 [.v 1], .e⟩
def F77 : Fn := ⟨[(some 2)],
 .blk (
  .op .len [.cell (.v 0) 0] <|
  .call 97 [.v 1, .c (.int .i64 (1)), .c (.int .i64 (12))] <|
  .op (.un .not) [.v 2] <|
  .ite (.v 3) (.leaf 0) <|
  .op .len [.cell (.v 0) 1] <|
  .op (.bin .gtr) [.v 4, .c (.int .i64 (24))] <|
  .leaf 1) [([.c (.bool true)], 0), ([.v 5], 0)] [.ite (.v 1) (.leaf 0) <|
  .op .len [.cell (.v 0) 0] <|
  .loop [.c (.int .i64 (0))] (
   .op (.bin .lss) [.v 3, .v 2] <|
   .ite (.v 4) (.op (.idx 9) [.cell (.v 0) 0, .v 3] <|
    .op (.elem 0 (some 9)) [.cell (.v 0) 0, .v 3] <|
    .call 117 [.node [.cell (.v 6) 0, .cell (.v 6) 1, .cell (.v 6) 2, .cell (.v 6) 3, .cell (.v 6) 4, .cell (.v 6) 5, .cell (.v 6) 6, .cell (.v 6) 7, .cell (.v 6) 8]] <|
    .op (.un .not) [.v 7] <|
    .ite (.v 8) (.leaf 0) <|
    .op (.bin .add) [.v 3, .c (.int .i64 (1))] <|
    .leaf 1) <|
   .leaf 2) [([], some 0), ([.v 9], none), ([], some 1)] [.leaf 1,
   .op .len [.cell (.v 0) 1] <|
   .loop [.c (.int .i64 (0))] (
    .op (.bin .lss) [.v 4, .v 3] <|
    .ite (.v 5) (.op (.idx 5) [.cell (.v 0) 1, .v 4] <|
     .op (.elem 0 (some 5)) [.cell (.v 0) 1, .v 4] <|
     .blk (
      .call 94 [.cell (.v 7) 0, .cell (.v 0) 0] <|
      .op (.un .not) [.v 8] <|
      .ite (.v 9) (.leaf 0) <|
      .call 94 [.cell (.v 7) 1, .cell (.v 0) 0] <|
      .op (.un .not) [.v 10] <|
      .ite (.v 11) (.leaf 1) <|
      .call 118 [.node [.cell (.v 7) 0, .cell (.v 7) 1, .cell (.v 7) 2, .cell (.v 7) 3, .cell (.v 7) 4]] <|
      .op (.un .not) [.v 12] <|
      .leaf 2) [([.c (.bool true)], 0), ([.c (.bool true)], 0), ([.v 13], 0)] [.ite (.v 8) (.leaf 0) <|
      .op (.bin .add) [.v 4, .c (.int .i64 (1))] <|
      .leaf 1]) <|
    .leaf 2) [([], some 0), ([.v 9], none), ([], some 1)] [.leaf 2,
    .leaf 3]]],
 [.c (.bool false), .c (.bool false), .c (.bool false), .c (.bool true)], .e⟩
def F78 : Fn := ⟨[(some 2)],
 .blk (
  .op .len [.cell (.v 0) 0] <|
  .call 70 [.v 1, .c (.int .i64 (1)), .c (.int .i64 (12))] <|
  .op (.un .not) [.v 2] <|
  .ite (.v 3) (.leaf 0) <|
  .op .len [.cell (.v 0) 1] <|
  .op (.bin .gtr) [.v 4, .c (.int .i64 (24))] <|
  .leaf 1) [([.c (.bool true)], 0), ([.v 5], 0)] [.ite (.v 1) (.leaf 0) <|
  .loop [.c (.int .i64 (0))] (
   .op .len [.cell (.v 0) 0] <|
   .op (.bin .lss) [.v 2, .v 3] <|
   .ite (.v 4) (.op (.idx 9) [.cell (.v 0) 0, .v 2] <|
    .op (.elem 0 (some 9)) [.cell (.v 0) 0, .v 2] <|
    .blk (
     .call 70 [.cell (.v 6) 0, .c (.int .i64 (-10000000)), .c (.int .i64 (10000000))] <|
     .op (.un .not) [.v 7] <|
     .ite (.v 8) (.leaf 0) <|
     .call 70 [.cell (.v 6) 1, .c (.int .i64 (-10000000)), .c (.int .i64 (10000000))] <|
     .op (.un .not) [.v 9] <|
     .ite (.v 10) (.leaf 1) <|
     .call 70 [.cell (.v 6) 2, .c (.int .i64 (0)), .c (.int .i64 (200))] <|
     .op (.un .not) [.v 11] <|
     .ite (.v 12) (.leaf 2) <|
     .call 119 [.node [.cell (.v 6) 3, .cell (.v 6) 4], .c (.int .i64 (0)), .c (.int .i64 (10000000))] <|
     .op (.un .not) [.v 13] <|
     .ite (.v 14) (.leaf 3) <|
     .call 70 [.cell (.v 6) 5, .c (.int .i64 (0)), .c (.int .i64 (1000000000))] <|
     .op (.un .not) [.v 15] <|
     .ite (.v 16) (.leaf 4) <|
     .call 119 [.node [.cell (.v 6) 6, .cell (.v 6) 7], .c (.int .i64 (0)), .cell (.v 6) 5] <|
     .op (.un .not) [.v 17] <|
     .ite (.v 18) (.leaf 5) <|
     .call 70 [.cell (.v 6) 8, .c (.int .i64 (0)), .c (.int .i64 (9999))] <|
     .op (.un .not) [.v 19] <|
     .leaf 6) [([.c (.bool true)], 0), ([.c (.bool true)], 0), ([.c (.bool true)], 0), ([.c (.bool true)], 0), ([.c (.bool true)], 0), ([.c (.bool true)], 0), ([.v 20], 0)] [.ite (.v 7) (.leaf 0) <|
     .op (.bin .add) [.v 2, .c (.int .i64 (1))] <|
     .leaf 1]) <|
   .leaf 2) [([], some 0), ([.v 8], none), ([], some 1)] [.leaf 1,
   .loop [.c (.int .i64 (0))] (
    .op .len [.cell (.v 0) 1] <|
    .op (.bin .lss) [.v 2, .v 3] <|
    .ite (.v 4) (.blk (
      .op (.idx 5) [.cell (.v 0) 1, .v 2] <|
      .op (.elem 0 (some 5)) [.cell (.v 0) 1, .v 2] <|
      .blk (
       .op .len [.cell (.v 0) 0] <|
       .op (.bin .sub) [.v 7, .c (.int .i64 (1))] <|
       .call 70 [.cell (.v 6) 0, .c (.int .i64 (0)), .v 8] <|
       .op (.un .not) [.v 9] <|
       .ite (.v 10) (.leaf 0) <|
       .op .len [.cell (.v 0) 0] <|
       .op (.bin .sub) [.v 11, .c (.int .i64 (1))] <|
       .call 70 [.cell (.v 6) 1, .c (.int .i64 (0)), .v 12] <|
       .op (.un .not) [.v 13] <|
       .ite (.v 14) (.leaf 1) <|
       .op (.bin .eql) [.cell (.v 6) 0, .cell (.v 6) 1] <|
       .ite (.v 15) (.leaf 2) <|
       .call 119 [.node [.cell (.v 6) 2, .cell (.v 6) 3], .c (.int .i64 (1)), .c (.int .i64 (1000000))] <|
       .op (.un .not) [.v 16] <|
       .ite (.v 17) (.leaf 3) <|
       .op .len [.cell (.v 6) 4] <|
       .op (.bin .gtr) [.v 18, .c (.int .i64 (6))] <|
       .leaf 4) [([.c (.bool true)], 0), ([.c (.bool true)], 0), ([.c (.bool true)], 0), ([.c (.bool true)], 0), ([.v 19], 0)] [.ite (.v 7) (.leaf 0) <|
       .loop [.c (.int .i64 (-1)), .c (.int .i64 (0))] (
        .op .len [.cell (.v 6) 4] <|
        .op (.bin .lss) [.v 9, .v 10] <|
        .ite (.v 11) (.op (.idx 4) [.cell (.v 6) 4, .v 9] <|
         .op (.elem 0 (some 4)) [.cell (.v 6) 4, .v 9] <|
         .blk (
          .call 119 [.node [.cell (.v 13) 0, .cell (.v 13) 1], .c (.int .i64 (0)), .c (.int .i64 (100000))] <|
          .op (.un .not) [.v 14] <|
          .ite (.v 15) (.leaf 0) <|
          .call 119 [.node [.cell (.v 13) 2, .cell (.v 13) 3], .c (.int .i64 (0)), .c (.int .i64 (100000))] <|
          .op (.un .not) [.v 16] <|
          .ite (.v 17) (.leaf 1) <|
          .op (.bin .gtr) [.cell (.v 13) 0, .cell (.v 13) 3] <|
          .ite (.v 18) (.leaf 2) <|
          .op (.bin .leq) [.cell (.v 13) 0, .v 8] <|
          .leaf 3) [([.c (.bool true)], 0), ([.c (.bool true)], 0), ([.c (.bool true)], 0), ([.v 19], 0)] [.ite (.v 14) (.leaf 0) <|
          .op (.bin .add) [.v 9, .c (.int .i64 (1))] <|
          .leaf 1]) <|
        .leaf 2) [([], some 0), ([.cell (.v 13) 3, .v 15], none), ([], some 1)] [.leaf 1,
        .leaf 2]]) [([], 0), ([], 0), ([], 1)] [.leaf 0,
      .op (.bin .add) [.v 2, .c (.int .i64 (1))] <|
      .leaf 1]) <|
    .leaf 2) [([], some 0), ([.v 5], none), ([], some 1)] [.leaf 2,
    .leaf 3]]],
 [.c (.bool false), .c (.bool false), .c (.bool false), .c (.bool true)], .e⟩
def F94 : Fn := ⟨[none, none],
 .op .len [.v 1] <|
 .op (.bin .sub) [.v 2, .c (.int .i64 (1))] <|
 .call 97 [.v 0, .c (.int .i64 (0)), .v 3] <|
 .leaf 0,
 [.v 4], .e⟩
def F95 : Fn := ⟨[none, none],
 .op .len [.v 0] <|
 .loop [.c (.int .i64 (0)), .c (.int .i64 (0))] (
  .op (.bin .lss) [.v 4, .v 2] <|
  .ite (.v 5) (.op (.idx 3) [.v 0, .v 4] <|
   .op (.elem 0 (some 3)) [.v 0, .v 4] <|
   .blk (
    .call 94 [.cell (.v 7) 0, .v 1] <|
    .op (.un .not) [.v 8] <|
    .ite (.v 9) (.leaf 0) <|
    .call 97 [.cell (.v 7) 1, .v 3, .c (.int .i64 (100000))] <|
    .op (.un .not) [.v 10] <|
    .ite (.v 11) (.leaf 1) <|
    .call 97 [.cell (.v 7) 2, .c (.int .i64 (0)), .c (.int .i64 (1000000000))] <|
    .op (.un .not) [.v 12] <|
    .leaf 2) [([.c (.bool true)], 0), ([.c (.bool true)], 0), ([.v 13], 0)] [.ite (.v 8) (.leaf 0) <|
    .op (.bin .add) [.v 4, .c (.int .i64 (1))] <|
    .leaf 1]) <|
  .leaf 2) [([], some 0), ([.cell (.v 7) 1, .v 9], none), ([], some 1)] [.leaf 0,
  .leaf 1],
 [.c (.bool false), .c (.bool true)], .e⟩
def F96 : Fn := ⟨[(some 9), none],
 .op (.bin .mul) [.v 1, .cell (.v 0) 3] <|
 .op (.bin .add) [.cell (.v 0) 6, .v 2] <|
 .op (.mx false) [.cell (.v 0) 5, .v 3] <|
 .op (.bin .mul) [.v 1, .cell (.v 0) 4] <|
 .op (.bin .add) [.cell (.v 0) 7, .v 5] <|
 .op (.mx false) [.cell (.v 0) 5, .v 6] <|
 .leaf 0,
 [.node [.v 4, .v 7]], .node [.e, .e]⟩
def F97 : Fn := ⟨[none, none, none],
 .blk (
  .op (.bin .leq) [.v 1, .v 0] <|
  .ite (.v 3) (.op (.bin .leq) [.v 0, .v 2] <|
   .leaf 0) <|
  .leaf 1) [([.v 4], 0), ([.c (.bool false)], 0)] [.leaf 0],
 [.v 3], .e⟩
def F98 : Fn := ⟨[none, none],
 .op (.bin .add) [.v 0, .v 1] <|
 .op (.bin .sub) [.v 2, .c (.int .i64 (1))] <|
 .op (.bin .quo) [.v 3, .v 1] <|
 .leaf 0,
 [.v 4], .e⟩
def F115 : Fn := ⟨[(some 2), none, none],
 .blk (
  .op (.bin .leq) [.v 1, .cell (.v 0) 0] <|
  .ite (.v 3) (.op (.bin .leq) [.cell (.v 0) 0, .cell (.v 0) 1] <|
   .ite (.v 4) (.op (.bin .leq) [.cell (.v 0) 1, .v 2] <|
    .leaf 0) <|
   .leaf 1) <|
  .leaf 2) [([.v 5], 0), ([.c (.bool false)], 0), ([.c (.bool false)], 0)] [.leaf 0],
 [.v 3], .e⟩
def F117 : Fn := ⟨[(some 9)],
 .blk (
  .call 97 [.cell (.v 0) 0, .c (.int .i64 (-10000000)), .c (.int .i64 (10000000))] <|
  .ite (.v 1) (.call 97 [.cell (.v 0) 1, .c (.int .i64 (-10000000)), .c (.int .i64 (10000000))] <|
   .ite (.v 2) (.call 97 [.cell (.v 0) 2, .c (.int .i64 (0)), .c (.int .i64 (200))] <|
    .ite (.v 3) (.call 115 [.node [.cell (.v 0) 3, .cell (.v 0) 4], .c (.int .i64 (0)), .c (.int .i64 (10000000))] <|
     .ite (.v 4) (.call 97 [.cell (.v 0) 5, .c (.int .i64 (0)), .c (.int .i64 (1000000000))] <|
      .ite (.v 5) (.call 115 [.node [.cell (.v 0) 6, .cell (.v 0) 7], .c (.int .i64 (0)), .cell (.v 0) 5] <|
       .ite (.v 6) (.call 97 [.cell (.v 0) 8, .c (.int .i64 (0)), .c (.int .i64 (9999))] <|
        .leaf 0) <|
       .leaf 1) <|
      .leaf 2) <|
     .leaf 3) <|
    .leaf 4) <|
   .leaf 5) <|
  .leaf 6) [([.v 7], 0), ([.c (.bool false)], 0), ([.c (.bool false)], 0), ([.c (.bool false)], 0), ([.c (.bool false)], 0), ([.c (.bool false)], 0), ([.c (.bool false)], 0)] [.leaf 0],
 [.v 1], .e⟩
def F118 : Fn := ⟨[(some 5)],
 .blk (
  .op (.bin .neq) [.cell (.v 0) 0, .cell (.v 0) 1] <|
  .ite (.v 1) (.call 115 [.node [.cell (.v 0) 2, .cell (.v 0) 3], .c (.int .i64 (1)), .c (.int .i64 (1000000))] <|
   .ite (.v 2) (.call 130 [.cell (.v 0) 4] <|
    .leaf 0) <|
   .leaf 1) <|
  .leaf 2) [([.v 3], 0), ([.c (.bool false)], 0), ([.c (.bool false)], 0)] [.leaf 0],
 [.v 1], .e⟩
def F119 : Fn := ⟨[(some 2), none, none],
 .blk (
  .call 70 [.cell (.v 0) 0, .v 1, .cell (.v 0) 1] <|
  .ite (.v 3) (.op (.bin .leq) [.cell (.v 0) 1, .v 2] <|
   .leaf 0) <|
  .leaf 1) [([.v 4], 0), ([.c (.bool false)], 0)] [.leaf 0],
 [.v 3], .e⟩
def F130 : Fn := ⟨[none],
 .op .len [.v 0] <|
 .op (.bin .gtr) [.v 1, .c (.int .i64 (6))] <|
 .ite (.v 2) (.leaf 0) <|
 .op .len [.v 0] <|
 .loop [.c (.int .i64 (-1)), .c (.int .i64 (0))] (
  .op (.bin .lss) [.v 5, .v 3] <|
  .ite (.v 6) (.op (.idx 4) [.v 0, .v 5] <|
   .op (.elem 0 (some 4)) [.v 0, .v 5] <|
   .blk (
    .call 115 [.node [.cell (.v 8) 0, .cell (.v 8) 1], .c (.int .i64 (0)), .c (.int .i64 (100000))] <|
    .op (.un .not) [.v 9] <|
    .ite (.v 10) (.leaf 0) <|
    .call 115 [.node [.cell (.v 8) 2, .cell (.v 8) 3], .c (.int .i64 (0)), .c (.int .i64 (100000))] <|
    .op (.un .not) [.v 11] <|
    .ite (.v 12) (.leaf 1) <|
    .op (.bin .gtr) [.cell (.v 8) 0, .cell (.v 8) 3] <|
    .ite (.v 13) (.leaf 2) <|
    .op (.bin .leq) [.cell (.v 8) 0, .v 4] <|
    .leaf 3) [([.c (.bool true)], 0), ([.c (.bool true)], 0), ([.c (.bool true)], 0), ([.v 14], 0)] [.ite (.v 9) (.leaf 0) <|
    .op (.bin .add) [.v 5, .c (.int .i64 (1))] <|
    .leaf 1]) <|
  .leaf 2) [([], some 0), ([.cell (.v 8) 3, .v 10], none), ([], some 1)] [.leaf 1,
  .leaf 2],
 [.c (.bool false), .c (.bool false), .c (.bool true)], .e⟩
def FN (f : FuncId) : Option Fn :=
  match f with
  | 7 => some F7
  | 8 => some F8
  | 15 => some F15
  | 21 => some F21
  | 22 => some F22
  | 24 => some F24
  | 31 => some F31
  | 32 => some F32
  | 34 => some F34
  | 35 => some F35
  | 36 => some F36
  | 37 => some F37
  | 70 => some F70
  | 72 => some F72
  | 77 => some F77
  | 78 => some F78
  | 94 => some F94
  | 95 => some F95
  | 96 => some F96
  | 97 => some F97
  | 98 => some F98
  | 115 => some F115
  | 117 => some F117
  | 118 => some F118
  | 119 => some F119
  | 130 => some F130
  | _ => none
end Go.Q
