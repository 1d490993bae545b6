/- The functions as trees. -/
import Derived.Test.YtecgohommehdpaaGreatJL
import Derived.Test.YtecgohommehdpaaGreatChecked
set_option linter.unusedVariables false
set_option maxRecDepth 100000
namespace Go.Q
open Go.V
open Go.Proofs.Tryz (prog)
def isRef (f : FuncId) : Bool := [].contains f
def dmR (f : FuncId) : Nat := ([((0 : FuncId), 0)].find? (·.1 == f)).elim 0 (·.2)
noncomputable def TP : FuncId → Option IFn := fun f => cFnD prog (isRef f) (dmR f) f
theorem cFn_ref {P : Program} {b : Bool} {dm : Nat} {f : FuncId} {fn : IFn} (h : cFnD P b dm f = some fn) : fn.byref = b ∧ fn.dm = dm := by
  unfold cFnD at h
  split at h
  · cases h
  · split at h
    · cases h
    · split at h
      · cases h
      · split at h
        · cases h; exact ⟨rfl, rfl⟩
        · cases h
theorem TP_ok : TOK prog TP := fun f fn h => by
  obtain ⟨h1, h2⟩ := cFn_ref h
  rw [h1, h2]; exact h
theorem mixed : prog.follows .mixedOrders = true := by kernel_rfl
def F5 : Fn := ⟨[(some 17), none, (some 2), (some 2), none, none, none],
 .call 13 [] <|
 .blk (
  .call 14 [.node [.cell (.v 0) 0, .cell (.v 0) 1, .cell (.v 0) 2, .cell (.v 0) 3, .cell (.v 0) 4, .cell (.v 0) 5, .cell (.v 0) 6, .cell (.v 0) 7, .cell (.v 0) 8, .cell (.v 0) 9, .cell (.v 0) 10, .cell (.v 0) 11, .cell (.v 0) 12, .cell (.v 0) 13, .cell (.v 0) 14, .cell (.v 0) 15, .cell (.v 0) 16]] <|
  .op (.bin .neq) [.v 8, .c (.int .i64 (0))] <|
  .ite (.v 9) (.leaf 0) <|
  .call 15 [.node [.c (.int .i64 (0)), .c (.int .i64 (0)), .cell (.v 2) 0, .cell (.v 2) 1, .c (.int .i64 (0)), .c (.int .i64 (0)), .c (.int .i64 (0)), .c (.int .i64 (0))]] <|
  .op (.un .not) [.v 10] <|
  .ite (.v 11) (.leaf 1) <|
  .op .len [.v 1] <|
  .op (.bin .gtr) [.v 12, .c (.int .i64 (30))] <|
  .ite (.v 13) (.leaf 2) <|
  .call 16 [.node [.cell (.v 3) 0, .cell (.v 3) 1]] <|
  .ite (.v 14) (.leaf 3) <|
  .call 17 [.node [.cell (.v 3) 0, .cell (.v 3) 1]] <|
  .op (.bin .neq) [.v 15, .c (.int .i64 (0))] <|
  .ite (.v 16) (.leaf 4) <|
  .op (.bin .lss) [.v 4, .c (.int .i64 (0))] <|
  .ite (.v 17) (.leaf 5) <|
  .op .len [.cell (.v 3) 0] <|
  .op (.bin .geq) [.v 4, .v 18] <|
  .ite (.v 19) (.leaf 6) <|
  .op (.bin .lss) [.v 6, .c (.int .i64 (1))] <|
  .ite (.v 20) (.leaf 7) <|
  .op (.bin .gtr) [.v 6, .c (.int .i64 (100000))] <|
  .ite (.v 21) (.leaf 8) <|
  .op .len [.v 5] <|
  .op (.bin .geq) [.v 22, .c (.int .i64 (200))] <|
  .ite (.v 23) (.leaf 9) <|
  .call 18 [.node [.cell (.v 3) 0, .cell (.v 3) 1], .v 5] <|
  .op (.un .not) [.v 24] <|
  .ite (.v 25) (.leaf 10) <|
  .op (.un .not) [.v 7] <|
  .leaf 11) [([.c (.bool true)], 0), ([.c (.bool true)], 0), ([.c (.bool true)], 0), ([.c (.bool true)], 0), ([.c (.bool true)], 0), ([.c (.bool true)], 0), ([.c (.bool true)], 0), ([.c (.bool true)], 0), ([.c (.bool true)], 0), ([.c (.bool true)], 0), ([.c (.bool true)], 0), ([.v 26], 0)] [.ite (.v 8) (.leaf 0) <|
  .op .len [.v 1] <|
  .loop [.c (.int .i64 (0))] (
   .op (.bin .lss) [.v 10, .v 9] <|
   .ite (.v 11) (.op (.idx 7) [.v 1, .v 10] <|
    .op (.elem 0 (some 7)) [.v 1, .v 10] <|
    .call 19 [.node [.cell (.v 0) 0, .cell (.v 0) 1, .cell (.v 0) 2, .cell (.v 0) 3, .cell (.v 0) 4, .cell (.v 0) 5, .cell (.v 0) 6, .cell (.v 0) 7, .cell (.v 0) 8, .cell (.v 0) 9, .cell (.v 0) 10, .cell (.v 0) 11, .cell (.v 0) 12, .cell (.v 0) 13, .cell (.v 0) 14, .cell (.v 0) 15, .cell (.v 0) 16], .node [.cell (.v 13) 0, .cell (.v 13) 1, .cell (.v 13) 2, .cell (.v 13) 3, .cell (.v 13) 4, .cell (.v 13) 5, .cell (.v 13) 6]] <|
    .op (.un .not) [.v 14] <|
    .ite (.v 15) (.leaf 0) <|
    .op (.bin .add) [.v 10, .c (.int .i64 (1))] <|
    .leaf 1) <|
   .leaf 2) [([], some 0), ([.v 16], none), ([], some 1)] [.leaf 1,
   .op .len [.v 5] <|
   .blk (
    .op (.bin .gtr) [.v 10, .c (.int .i64 (0))] <|
    .ite (.v 11) (.op (.bin .sub) [.v 10, .c (.int .i64 (1))] <|
     .op (.idx 3) [.v 5, .v 12] <|
     .op (.elem 1 none) [.v 5, .v 12] <|
     .op (.bin .geq) [.v 14, .v 6] <|
     .leaf 0) <|
    .leaf 1) [([.v 15], 0), ([.c (.bool false)], 0)] [.ite (.v 11) (.leaf 2) <|
    .call 20 [.node [.cell (.v 0) 0, .cell (.v 0) 1, .cell (.v 0) 2, .cell (.v 0) 3, .cell (.v 0) 4, .cell (.v 0) 5, .cell (.v 0) 6, .cell (.v 0) 7, .cell (.v 0) 8, .cell (.v 0) 9, .cell (.v 0) 10, .cell (.v 0) 11, .cell (.v 0) 12, .cell (.v 0) 13, .cell (.v 0) 14, .cell (.v 0) 15, .cell (.v 0) 16], .v 1] <|
    .op (.bin .neq) [.cell (.v 12) 1, .c (.int .i64 (0))] <|
    .ite (.v 13) (.leaf 3) <|
    .op .len [.v 1] <|
    .loop [.c (.int .i64 (0)), .c (.int .i64 (0)), .c (.int .i64 (0))] (
     .op (.bin .lss) [.v 17, .v 14] <|
     .ite (.v 18) (.blk (
       .op (.idx 7) [.v 1, .v 17] <|
       .op (.elem 0 (some 7)) [.v 1, .v 17] <|
       .call 21 [.node [.cell (.v 0) 0, .cell (.v 0) 1, .cell (.v 0) 2, .cell (.v 0) 3, .cell (.v 0) 4, .cell (.v 0) 5, .cell (.v 0) 6, .cell (.v 0) 7, .cell (.v 0) 8, .cell (.v 0) 9, .cell (.v 0) 10, .cell (.v 0) 11, .cell (.v 0) 12, .cell (.v 0) 13, .cell (.v 0) 14, .cell (.v 0) 15, .cell (.v 0) 16], .cell (.v 20) 6, .node [.c (.int .i64 (0)), .c (.int .i64 (0)), .cell (.v 2) 0, .cell (.v 2) 1, .c (.int .i64 (0)), .c (.int .i64 (0)), .c (.int .i64 (0)), .c (.int .i64 (0))]] <|
       .blk (
        .op (.bin .neq) [.cell (.v 21) 2, .c (.int .i64 (0))] <|
        .ite (.v 22) (.leaf 0) <|
        .op (.eqv true [false, false]) [.cell (.cell (.v 21) 1) 0, .cell (.cell (.v 21) 1) 1, .c (.int .i64 (0)), .c (.int .i64 (0))] <|
        .leaf 1) [([.c (.bool true)], 0), ([.v 23], 0)] [.ite (.v 22) (.leaf 0) <|
        .op (.bin .add) [.cell (.cell (.v 21) 0) 1, .cell (.v 0) 0] <|
        .op (.bin .sub) [.v 23, .cell (.v 20) 0] <|
        .blk (
         .op (.bin .lss) [.v 24, .c (.int .i64 (0))] <|
         .ite (.v 25) (.leaf 0) <|
         .op (.bin .gtr) [.v 24, .c (.int .i64 (1000000))] <|
         .ite (.v 26) (.leaf 1) <|
         .op (.bin .lss) [.cell (.v 20) 0, .cell (.cell (.v 21) 0) 1] <|
         .leaf 2) [([.c (.bool true)], 0), ([.c (.bool true)], 0), ([.v 27], 0)] [.ite (.v 25) (.leaf 1) <|
         .op (.bin .add) [.v 15, .v 24] <|
         .call 22 [.v 24, .v 24] <|
         .call 23 [.node [.cell (.v 0) 0, .cell (.v 0) 1, .cell (.v 0) 2, .cell (.v 0) 3, .cell (.v 0) 4, .cell (.v 0) 5, .cell (.v 0) 6, .cell (.v 0) 7, .cell (.v 0) 8, .cell (.v 0) 9, .cell (.v 0) 10, .cell (.v 0) 11, .cell (.v 0) 12, .cell (.v 0) 13, .cell (.v 0) 14, .cell (.v 0) 15, .cell (.v 0) 16], .node [.cell (.v 20) 0, .cell (.v 20) 1, .cell (.v 20) 2, .cell (.v 20) 3, .cell (.v 20) 4, .cell (.v 20) 5, .cell (.v 20) 6], .node [.c (.int .i64 (0)), .c (.int .i64 (0)), .cell (.v 2) 0, .cell (.v 2) 1, .c (.int .i64 (0)), .c (.int .i64 (0)), .cell (.v 27) 0, .cell (.v 27) 1]] <|
         .blk (
          .op (.bin .neq) [.cell (.v 28) 2, .c (.int .i64 (0))] <|
          .ite (.v 29) (.leaf 0) <|
          .op (.bin .neq) [.cell (.v 28) 1, .c (.int .u8 (0))] <|
          .ite (.v 30) (.leaf 1) <|
          .call 22 [.cell (.v 0) 0, .cell (.v 0) 0] <|
          .op (.eqv true [false, false]) [.cell (.cell (.v 28) 0) 0, .cell (.cell (.v 28) 0) 1, .cell (.v 31) 0, .cell (.v 31) 1] <|
          .leaf 2) [([.c (.bool true)], 0), ([.c (.bool true)], 0), ([.v 32], 0)] [.ite (.v 29) (.leaf 2) <|
          .op (.bin .sub) [.v 24, .cell (.cell (.v 21) 0) 1] <|
          .op (.bin .add) [.v 16, .v 30] <|
          .leaf 3]]]) [([.c (.bool false)], 0), ([.v 7], 0), ([.c (.bool false)], 0), ([.v 26, .v 31], 1)] [.leaf 0,
       .op (.bin .add) [.v 17, .c (.int .i64 (1))] <|
       .leaf 1]) <|
     .leaf 2) [([.v 19], some 0), ([.v 19, .v 20, .v 21], none), ([.v 15, .v 16], some 1)] [.leaf 4,
     .op (.bin .neq) [.v 16, .cell (.cell (.v 12) 0) 1] <|
     .ite (.v 17) (.leaf 5) <|
     .call 24 [.node [.cell (.v 3) 0, .cell (.v 3) 1], .v 4, .v 5, .v 6] <|
     .op (.bin .neq) [.cell (.v 18) 2, .c (.int .i64 (0))] <|
     .ite (.v 19) (.blk (
       .ite (.v 7) (.op (.bin .eql) [.cell (.v 18) 2, .c (.int .i64 (33))] <|
        .leaf 0) <|
       .leaf 1) [([.v 20], 0), ([.c (.bool false)], 0)] [.leaf 6]) <|
     .blk (
      .op (.bin .lss) [.cell (.cell (.v 18) 0) 0, .v 15] <|
      .ite (.v 20) (.leaf 0) <|
      .op (.bin .gtr) [.v 15, .c (.int .i64 (1000000000))] <|
      .leaf 1) [([.c (.bool true)], 0), ([.v 21], 0)] [.ite (.v 20) (.leaf 7) <|
      .op (.app 3 24) [.c (.list []), .v 5] <|
      .op (.bin .sub) [.v 6, .c (.int .i64 (1))] <|
      .op (.listOf 3 1 [.int .i64 (0), .int .i64 (0), .int .i64 (0)] [0]) [.v 4, .v 22, .v 15] <|
      .op (.app 3 24) [.v 21, .v 23] <|
      .call 24 [.node [.cell (.v 3) 0, .cell (.v 3) 1], .v 4, .v 24, .v 6] <|
      .flat (.cell (.cell (.v 25) 0) 0) <|
      .flat (.cell (.cell (.v 25) 0) 1) <|
      .flat (.cell (.v 25) 1) <|
      .flat (.cell (.v 25) 2) <|
      .blk (
       .ite (.v 7) (.op (.bin .eql) [.cell (.v 25) 2, .c (.int .i64 (0))] <|
        .ite (.v 26) (.op (.bin .sub) [.cell (.cell (.v 18) 0) 0, .v 15] <|
         .op (.bin .sub) [.cell (.cell (.v 18) 0) 1, .v 15] <|
         .call 22 [.v 27, .v 28] <|
         .op (.eqv false [false, false]) [.cell (.cell (.v 25) 0) 0, .cell (.cell (.v 25) 0) 1, .cell (.v 29) 0, .cell (.v 29) 1] <|
         .leaf 0) <|
        .leaf 1) <|
       .leaf 2) [([.v 30], 0), ([.c (.bool false)], 0), ([.c (.bool false)], 0)] [.leaf 8]]]]]],
 [.v 7, .v 7, .v 7, .c (.bool false), .v 15, .c (.bool false), .v 20, .v 7, .v 26], .e⟩
def F13 : Fn := ⟨[],
 .leaf 0,
 [.c (.bool true)], .e⟩
def F14 : Fn := ⟨[(some 17)],
 .call 53 [.node [.cell (.v 0) 0, .cell (.v 0) 1, .cell (.v 0) 2, .cell (.v 0) 3, .cell (.v 0) 4, .cell (.v 0) 5, .cell (.v 0) 6, .cell (.v 0) 7, .cell (.v 0) 8, .cell (.v 0) 9, .cell (.v 0) 10, .cell (.v 0) 11, .cell (.v 0) 12, .cell (.v 0) 13, .cell (.v 0) 14, .cell (.v 0) 15, .cell (.v 0) 16]] <|
 .op (.un .not) [.v 1] <|
 .ite (.v 2) (.leaf 0) <|
 .leaf 1,
 [.c (.int .i64 (10)), .c (.int .i64 (0))], .e⟩
def F15 : Fn := ⟨[(some 8)],
 .blk (
  .call 54 [.cell (.v 0) 0, .c (.int .i64 (0)), .c (.int .i64 (24))] <|
  .ite (.v 1) (.call 54 [.cell (.v 0) 1, .c (.int .i64 (0)), .c (.int .i64 (1000000))] <|
   .ite (.v 2) (.call 55 [.node [.cell (.v 0) 2, .cell (.v 0) 3], .c (.int .i64 (0)), .c (.int .i64 (60))] <|
    .ite (.v 3) (.call 55 [.node [.cell (.v 0) 4, .cell (.v 0) 5], .c (.int .i64 (0)), .c (.int .i64 (1000000))] <|
     .ite (.v 4) (.call 55 [.node [.cell (.v 0) 6, .cell (.v 0) 7], .c (.int .i64 (0)), .c (.int .i64 (1000000))] <|
      .leaf 0) <|
     .leaf 1) <|
    .leaf 2) <|
   .leaf 3) <|
  .leaf 4) [([.v 5], 0), ([.c (.bool false)], 0), ([.c (.bool false)], 0), ([.c (.bool false)], 0), ([.c (.bool false)], 0)] [.leaf 0],
 [.v 1], .e⟩
def F16 : Fn := ⟨[(some 2)],
 .blk (
  .op .len [.cell (.v 0) 0] <|
  .op (.bin .gtr) [.v 1, .c (.int .i64 (20))] <|
  .ite (.v 2) (.leaf 0) <|
  .op .len [.cell (.v 0) 1] <|
  .op (.bin .gtr) [.v 3, .c (.int .i64 (40))] <|
  .leaf 1) [([.c (.bool true)], 0), ([.v 4], 0)] [.ite (.v 1) (.leaf 0) <|
  .loop [.c (.int .i64 (0))] (
   .op .len [.cell (.v 0) 1] <|
   .op (.bin .lss) [.v 2, .v 3] <|
   .ite (.v 4) (.op (.idx 5) [.cell (.v 0) 1, .v 2] <|
    .op (.elem 4 none) [.cell (.v 0) 1, .v 2] <|
    .op .len [.v 6] <|
    .op (.bin .gtr) [.v 7, .c (.int .i64 (20))] <|
    .ite (.v 8) (.leaf 0) <|
    .op (.bin .add) [.v 2, .c (.int .i64 (1))] <|
    .leaf 1) <|
   .leaf 2) [([], some 0), ([.v 9], none), ([], some 1)] [.leaf 1,
   .leaf 2]],
 [.c (.bool true), .c (.bool true), .c (.bool false)], .e⟩
def F17 : Fn := ⟨[(some 2)],
 .call 56 [.node [.cell (.v 0) 0, .cell (.v 0) 1]] <|
 .op (.un .not) [.v 1] <|
 .ite (.v 2) (.leaf 0) <|
 .leaf 1,
 [.c (.int .i64 (30)), .c (.int .i64 (0))], .e⟩
def F18 : Fn := ⟨[(some 2), none],
 .loop [.c (.int .i64 (0))] (
  .op .len [.v 1] <|
  .op (.bin .lss) [.v 2, .v 3] <|
  .ite (.v 4) (.op (.idx 3) [.v 1, .v 2] <|
   .op (.elem 0 (some 3)) [.v 1, .v 2] <|
   .blk (
    .op .len [.cell (.v 0) 0] <|
    .op (.bin .sub) [.v 7, .c (.int .i64 (1))] <|
    .call 57 [.cell (.v 6) 0, .c (.int .i64 (0)), .v 8] <|
    .op (.un .not) [.v 9] <|
    .ite (.v 10) (.leaf 0) <|
    .call 57 [.cell (.v 6) 1, .c (.int .i64 (0)), .c (.int .i64 (100000))] <|
    .op (.un .not) [.v 11] <|
    .ite (.v 12) (.leaf 1) <|
    .call 57 [.cell (.v 6) 2, .c (.int .i64 (0)), .c (.int .i64 (1000000000))] <|
    .op (.un .not) [.v 13] <|
    .ite (.v 14) (.leaf 2) <|
    .op (.bin .gtr) [.v 2, .c (.int .i64 (0))] <|
    .ite (.v 15) (.op (.bin .sub) [.v 2, .c (.int .i64 (1))] <|
     .op (.idx 3) [.v 1, .v 16] <|
     .op (.elem 1 none) [.v 1, .v 16] <|
     .op (.bin .lss) [.cell (.v 6) 1, .v 18] <|
     .leaf 3) <|
    .leaf 4) [([.c (.bool true)], 0), ([.c (.bool true)], 0), ([.c (.bool true)], 0), ([.v 19], 0), ([.c (.bool false)], 0)] [.ite (.v 7) (.leaf 0) <|
    .op (.bin .add) [.v 2, .c (.int .i64 (1))] <|
    .leaf 1]) <|
  .leaf 2) [([], some 0), ([.v 8], none), ([], some 1)] [.leaf 0,
  .leaf 1],
 [.c (.bool false), .c (.bool true)], .e⟩
def F19 : Fn := ⟨[(some 17), (some 7)],
 .blk (
  .call 55 [.node [.cell (.v 1) 0, .cell (.v 1) 1], .c (.int .i64 (0)), .cell (.v 0) 0] <|
  .ite (.v 2) (.call 55 [.node [.cell (.v 1) 2, .cell (.v 1) 3], .c (.int .i64 (0)), .cell (.v 0) 1] <|
   .ite (.v 3) (.call 55 [.node [.cell (.v 1) 4, .cell (.v 1) 5], .c (.int .i64 (0)), .c (.int .i64 (1000))] <|
    .leaf 0) <|
   .leaf 1) <|
  .leaf 2) [([.v 4], 0), ([.c (.bool false)], 0), ([.c (.bool false)], 0)] [.leaf 0],
 [.v 2], .e⟩
def F20 : Fn := ⟨[(some 17), none],
 .call 58 [.node [.cell (.v 0) 0, .cell (.v 0) 1, .cell (.v 0) 2, .cell (.v 0) 3, .cell (.v 0) 4, .cell (.v 0) 5, .cell (.v 0) 6, .cell (.v 0) 7, .cell (.v 0) 8, .cell (.v 0) 9, .cell (.v 0) 10, .cell (.v 0) 11, .cell (.v 0) 12, .cell (.v 0) 13, .cell (.v 0) 14, .cell (.v 0) 15, .cell (.v 0) 16]] <|
 .op (.bin .neq) [.v 2, .c (.int .i64 (0))] <|
 .ite (.v 3) (.leaf 0) <|
 .op .len [.v 1] <|
 .op (.bin .gtr) [.v 4, .c (.int .i64 (30))] <|
 .ite (.v 5) (.leaf 1) <|
 .op .len [.v 1] <|
 .loop [.c (.int .i64 (0)), .c (.int .i64 (0)), .c (.int .i64 (0))] (
  .op (.bin .lss) [.v 7, .v 6] <|
  .ite (.v 10) (.op (.idx 7) [.v 1, .v 7] <|
   .op (.elem 0 (some 7)) [.v 1, .v 7] <|
   .call 59 [.node [.cell (.v 0) 0, .cell (.v 0) 1, .cell (.v 0) 2, .cell (.v 0) 3, .cell (.v 0) 4, .cell (.v 0) 5, .cell (.v 0) 6, .cell (.v 0) 7, .cell (.v 0) 8, .cell (.v 0) 9, .cell (.v 0) 10, .cell (.v 0) 11, .cell (.v 0) 12, .cell (.v 0) 13, .cell (.v 0) 14, .cell (.v 0) 15, .cell (.v 0) 16], .node [.cell (.v 12) 0, .cell (.v 12) 1, .cell (.v 12) 2, .cell (.v 12) 3, .cell (.v 12) 4, .cell (.v 12) 5, .cell (.v 12) 6]] <|
   .op (.bin .neq) [.v 13, .c (.int .i64 (0))] <|
   .ite (.v 14) (.leaf 0) <|
   .op (.bin .sub) [.cell (.v 0) 0, .cell (.v 12) 1] <|
   .op (.bin .add) [.v 8, .v 15] <|
   .op (.bin .sub) [.cell (.v 0) 0, .cell (.v 12) 0] <|
   .op (.bin .add) [.v 9, .v 17] <|
   .op (.bin .add) [.v 7, .c (.int .i64 (1))] <|
   .leaf 1) <|
  .leaf 2) [([.v 13], some 0), ([.v 19, .v 16, .v 18], none), ([.v 8, .v 9], some 1)] [.leaf 2,
  .leaf 3],
 [.node [.node [.c (.int .i64 (0)), .c (.int .i64 (0))], .v 2], .node [.node [.c (.int .i64 (0)), .c (.int .i64 (0))], .c (.int .i64 (4))], .node [.node [.c (.int .i64 (0)), .c (.int .i64 (0))], .v 7], .node [.node [.v 7, .v 8], .c (.int .i64 (0))]], .tup [.node [.e, .e], .e]⟩
def F21 : Fn := ⟨[(some 17), none, (some 8)],
 .call 58 [.node [.cell (.v 0) 0, .cell (.v 0) 1, .cell (.v 0) 2, .cell (.v 0) 3, .cell (.v 0) 4, .cell (.v 0) 5, .cell (.v 0) 6, .cell (.v 0) 7, .cell (.v 0) 8, .cell (.v 0) 9, .cell (.v 0) 10, .cell (.v 0) 11, .cell (.v 0) 12, .cell (.v 0) 13, .cell (.v 0) 14, .cell (.v 0) 15, .cell (.v 0) 16]] <|
 .op (.bin .neq) [.v 3, .c (.int .i64 (0))] <|
 .ite (.v 4) (.leaf 0) <|
 .op (.listOf 8 1 [.int .i64 (0), .int .i64 (0), .int .i64 (0), .int .i64 (0), .int .i64 (0), .int .i64 (0), .int .i64 (0), .int .i64 (0)] [0]) [.cell (.v 2) 0, .cell (.v 2) 1, .cell (.v 2) 2, .cell (.v 2) 3, .cell (.v 2) 4, .cell (.v 2) 5, .cell (.v 2) 6, .cell (.v 2) 7] <|
 .call 60 [.v 5] <|
 .flat (.v 6) <|
 .op (.bin .neq) [.v 6, .c (.int .i64 (0))] <|
 .ite (.v 7) (.leaf 1) <|
 .call 61 [.node [.cell (.v 0) 0, .cell (.v 0) 1, .cell (.v 0) 2, .cell (.v 0) 3, .cell (.v 0) 4, .cell (.v 0) 5, .cell (.v 0) 6, .cell (.v 0) 7, .cell (.v 0) 8, .cell (.v 0) 9, .cell (.v 0) 10, .cell (.v 0) 11, .cell (.v 0) 12, .cell (.v 0) 13, .cell (.v 0) 14, .cell (.v 0) 15, .cell (.v 0) 16], .node [.c (.int .i64 (0)), .c (.int .i64 (0)), .c (.int .i64 (0)), .c (.int .i64 (0)), .c (.int .i64 (0)), .c (.int .i64 (0)), .v 1]] <|
 .call 62 [.node [.cell (.v 8) 0, .cell (.v 8) 1, .cell (.v 8) 2, .cell (.v 8) 3, .cell (.v 8) 4, .cell (.v 8) 5, .cell (.v 8) 6, .cell (.v 8) 7, .cell (.v 8) 8, .cell (.v 8) 9, .cell (.v 8) 10, .cell (.v 8) 11, .cell (.v 8) 12, .cell (.v 8) 13, .cell (.v 8) 14, .cell (.v 8) 15, .cell (.v 8) 16, .cell (.v 8) 17, .cell (.v 8) 18, .cell (.v 8) 19, .cell (.v 8) 20, .cell (.v 8) 21, .cell (.v 8) 22, .cell (.v 8) 23], .node [.cell (.v 2) 0, .cell (.v 2) 1, .cell (.v 2) 2, .cell (.v 2) 3, .cell (.v 2) 4, .cell (.v 2) 5, .cell (.v 2) 6, .cell (.v 2) 7]] <|
 .leaf 2,
 [.node [.node [.c (.int .i64 (0)), .c (.int .i64 (0))], .node [.c (.int .i64 (0)), .c (.int .i64 (0))], .v 3], .node [.node [.c (.int .i64 (0)), .c (.int .i64 (0))], .node [.c (.int .i64 (0)), .c (.int .i64 (0))], .v 6], .node [.node [.cell (.v 9) 0, .cell (.v 9) 1], .node [.cell (.v 9) 2, .cell (.v 9) 3], .c (.int .i64 (0))]], .tup [.node [.e, .e], .node [.e, .e], .e]⟩
def F22 : Fn := ⟨[none, none],
 .leaf 0,
 [.node [.v 0, .v 1]], .node [.e, .e]⟩
def F23 : Fn := ⟨[(some 17), (some 7), (some 8)],
 .call 59 [.node [.cell (.v 0) 0, .cell (.v 0) 1, .cell (.v 0) 2, .cell (.v 0) 3, .cell (.v 0) 4, .cell (.v 0) 5, .cell (.v 0) 6, .cell (.v 0) 7, .cell (.v 0) 8, .cell (.v 0) 9, .cell (.v 0) 10, .cell (.v 0) 11, .cell (.v 0) 12, .cell (.v 0) 13, .cell (.v 0) 14, .cell (.v 0) 15, .cell (.v 0) 16], .node [.cell (.v 1) 0, .cell (.v 1) 1, .cell (.v 1) 2, .cell (.v 1) 3, .cell (.v 1) 4, .cell (.v 1) 5, .cell (.v 1) 6]] <|
 .op (.bin .neq) [.v 3, .c (.int .i64 (0))] <|
 .ite (.v 4) (.leaf 0) <|
 .op (.listOf 8 1 [.int .i64 (0), .int .i64 (0), .int .i64 (0), .int .i64 (0), .int .i64 (0), .int .i64 (0), .int .i64 (0), .int .i64 (0)] [0]) [.cell (.v 2) 0, .cell (.v 2) 1, .cell (.v 2) 2, .cell (.v 2) 3, .cell (.v 2) 4, .cell (.v 2) 5, .cell (.v 2) 6, .cell (.v 2) 7] <|
 .call 60 [.v 5] <|
 .flat (.v 6) <|
 .op (.bin .neq) [.v 6, .c (.int .i64 (0))] <|
 .ite (.v 7) (.leaf 1) <|
 .call 61 [.node [.cell (.v 0) 0, .cell (.v 0) 1, .cell (.v 0) 2, .cell (.v 0) 3, .cell (.v 0) 4, .cell (.v 0) 5, .cell (.v 0) 6, .cell (.v 0) 7, .cell (.v 0) 8, .cell (.v 0) 9, .cell (.v 0) 10, .cell (.v 0) 11, .cell (.v 0) 12, .cell (.v 0) 13, .cell (.v 0) 14, .cell (.v 0) 15, .cell (.v 0) 16], .node [.cell (.v 1) 0, .cell (.v 1) 1, .cell (.v 1) 2, .cell (.v 1) 3, .cell (.v 1) 4, .cell (.v 1) 5, .cell (.v 1) 6]] <|
 .call 63 [.node [.cell (.v 8) 0, .cell (.v 8) 1, .cell (.v 8) 2, .cell (.v 8) 3, .cell (.v 8) 4, .cell (.v 8) 5, .cell (.v 8) 6, .cell (.v 8) 7, .cell (.v 8) 8, .cell (.v 8) 9, .cell (.v 8) 10, .cell (.v 8) 11, .cell (.v 8) 12, .cell (.v 8) 13, .cell (.v 8) 14, .cell (.v 8) 15, .cell (.v 8) 16, .cell (.v 8) 17, .cell (.v 8) 18, .cell (.v 8) 19, .cell (.v 8) 20, .cell (.v 8) 21, .cell (.v 8) 22, .cell (.v 8) 23], .node [.cell (.v 2) 0, .cell (.v 2) 1, .cell (.v 2) 2, .cell (.v 2) 3, .cell (.v 2) 4, .cell (.v 2) 5, .cell (.v 2) 6, .cell (.v 2) 7]] <|
 .op (.bin .eql) [.cell (.v 9) 1, .c (.int .u8 (2))] <|
 .ite (.v 10) (.leaf 2) <|
 .call 64 [.node [.cell (.cell (.v 9) 0) 0, .cell (.cell (.v 9) 0) 1, .cell (.cell (.v 9) 0) 2, .cell (.cell (.v 9) 0) 3, .cell (.cell (.v 9) 0) 4, .cell (.cell (.v 9) 0) 5, .cell (.cell (.v 9) 0) 6, .cell (.cell (.v 9) 0) 7, .cell (.cell (.v 9) 0) 8, .cell (.cell (.v 9) 0) 9, .cell (.cell (.v 9) 0) 10, .cell (.cell (.v 9) 0) 11, .cell (.cell (.v 9) 0) 12, .cell (.cell (.v 9) 0) 13, .cell (.cell (.v 9) 0) 14, .cell (.cell (.v 9) 0) 15, .cell (.cell (.v 9) 0) 16, .cell (.cell (.v 9) 0) 17, .cell (.cell (.v 9) 0) 18, .cell (.cell (.v 9) 0) 19, .cell (.cell (.v 9) 0) 20, .cell (.cell (.v 9) 0) 21, .cell (.cell (.v 9) 0) 22, .cell (.cell (.v 9) 0) 23]] <|
 .leaf 3,
 [.node [.node [.c (.int .i64 (0)), .c (.int .i64 (0)), .c (.int .i64 (0)), .c (.int .i64 (0)), .c (.int .i64 (0)), .c (.int .i64 (0)), .c (.bool false)], .c (.int .u8 (0)), .v 3], .node [.node [.c (.int .i64 (0)), .c (.int .i64 (0)), .c (.int .i64 (0)), .c (.int .i64 (0)), .c (.int .i64 (0)), .c (.int .i64 (0)), .c (.bool false)], .c (.int .u8 (0)), .v 6], .node [.node [.c (.int .i64 (0)), .c (.int .i64 (0)), .c (.int .i64 (0)), .c (.int .i64 (0)), .c (.int .i64 (0)), .c (.int .i64 (0)), .c (.bool false)], .c (.int .u8 (0)), .c (.int .i64 (13))], .node [.node [.cell (.v 11) 0, .cell (.v 11) 1, .cell (.v 11) 2, .cell (.v 11) 3, .cell (.v 11) 4, .cell (.v 11) 5, .cell (.v 11) 6], .cell (.v 9) 1, .c (.int .i64 (0))]], .tup [.node [.e, .e, .e, .e, .e, .e, .e], .e, .e]⟩
def F24 : Fn := ⟨[(some 2), none, none, none],
 .call 65 [.node [.cell (.v 0) 0, .cell (.v 0) 1]] <|
 .op (.bin .neq) [.v 4, .c (.int .i64 (0))] <|
 .ite (.v 5) (.leaf 0) <|
 .blk (
  .call 66 [.v 1, .cell (.v 0) 0] <|
  .op (.un .not) [.v 6] <|
  .ite (.v 7) (.leaf 0) <|
  .call 67 [.v 3] <|
  .op (.un .not) [.v 8] <|
  .leaf 1) [([.c (.bool true)], 0), ([.v 9], 0)] [.ite (.v 6) (.leaf 1) <|
  .op .len [.v 2] <|
  .op (.bin .gtr) [.v 7, .c (.int .i64 (200))] <|
  .ite (.v 8) (.leaf 2) <|
  .call 68 [.v 2, .cell (.v 0) 0] <|
  .op (.un .not) [.v 9] <|
  .ite (.v 10) (.leaf 3) <|
  .op (.idx 9) [.cell (.v 0) 0, .v 1] <|
  .op (.elem 0 (some 9)) [.cell (.v 0) 0, .v 1] <|
  .op .len [.v 2] <|
  .loop [.c (.int .i64 (0)), .c (.int .i64 (0)), .cell (.v 12) 6, .cell (.v 12) 7] (
   .op (.bin .lss) [.v 15, .v 13] <|
   .ite (.v 18) (.blk (
     .op (.idx 3) [.v 2, .v 15] <|
     .op (.elem 0 (some 3)) [.v 2, .v 15] <|
     .blk (
      .op (.bin .neq) [.cell (.v 20) 0, .v 1] <|
      .ite (.v 21) (.leaf 0) <|
      .op (.bin .geq) [.cell (.v 20) 1, .v 3] <|
      .leaf 1) [([.c (.bool true)], 0), ([.v 22], 0)] [.ite (.v 21) (.leaf 0) <|
      .op (.bin .add) [.cell (.v 20) 1, .c (.int .i64 (1))] <|
      .op (.bin .sub) [.v 22, .v 14] <|
      .call 69 [.node [.cell (.v 12) 0, .cell (.v 12) 1, .cell (.v 12) 2, .cell (.v 12) 3, .cell (.v 12) 4, .cell (.v 12) 5, .v 16, .v 17, .cell (.v 12) 8], .v 23] <|
      .op (.bin .add) [.cell (.v 20) 1, .c (.int .i64 (1))] <|
      .op (.bin .gtr) [.cell (.v 20) 2, .cell (.v 24) 1] <|
      .ite (.v 26) (.leaf 1) <|
      .op (.bin .sub) [.cell (.v 24) 0, .cell (.v 20) 2] <|
      .op (.mx true) [.c (.int .i64 (0)), .v 27] <|
      .op (.bin .sub) [.cell (.v 24) 1, .cell (.v 20) 2] <|
      .leaf 2]) [([.v 14, .v 16, .v 17], 0), ([], 1), ([.v 25, .v 28, .v 29], 0)] [.op (.bin .add) [.v 15, .c (.int .i64 (1))] <|
     .leaf 0,
     .leaf 1]) <|
   .leaf 2) [([.v 19, .v 22, .v 20, .v 21], none), ([.v 15], some 0), ([.v 14, .v 16, .v 17], some 1)] [.leaf 4,
   .op (.bin .sub) [.v 3, .v 14] <|
   .call 69 [.node [.cell (.v 12) 0, .cell (.v 12) 1, .cell (.v 12) 2, .cell (.v 12) 3, .cell (.v 12) 4, .cell (.v 12) 5, .v 15, .v 16, .cell (.v 12) 8], .v 17] <|
   .leaf 5]],
 [.node [.node [.c (.int .i64 (0)), .c (.int .i64 (0))], .c (.int .i64 (0)), .v 4], .node [.node [.c (.int .i64 (0)), .c (.int .i64 (0))], .c (.int .i64 (0)), .c (.int .i64 (2))], .node [.node [.c (.int .i64 (0)), .c (.int .i64 (0))], .c (.int .i64 (0)), .c (.int .i64 (4))], .node [.node [.c (.int .i64 (0)), .c (.int .i64 (0))], .c (.int .i64 (0)), .c (.int .i64 (32))], .node [.node [.c (.int .i64 (0)), .c (.int .i64 (0))], .v 14, .c (.int .i64 (33))], .node [.node [.cell (.v 18) 0, .cell (.v 18) 1], .c (.int .i64 (0)), .c (.int .i64 (0))]], .tup [.node [.e, .e], .e, .e]⟩
def F53 : Fn := ⟨[(some 17)],
 .blk (
  .call 54 [.cell (.v 0) 0, .c (.int .i64 (1)), .c (.int .i64 (1000000))] <|
  .op (.un .not) [.v 1] <|
  .ite (.v 2) (.leaf 0) <|
  .call 54 [.cell (.v 0) 1, .c (.int .i64 (1)), .c (.int .i64 (1000000))] <|
  .op (.un .not) [.v 3] <|
  .ite (.v 4) (.leaf 1) <|
  .call 54 [.cell (.v 0) 14, .c (.int .i64 (0)), .c (.int .i64 (1000))] <|
  .op (.un .not) [.v 5] <|
  .ite (.v 6) (.leaf 2) <|
  .call 55 [.node [.cell (.v 0) 15, .cell (.v 0) 16], .c (.int .i64 (0)), .c (.int .i64 (1000000))] <|
  .op (.un .not) [.v 7] <|
  .leaf 3) [([.c (.bool true)], 0), ([.c (.bool true)], 0), ([.c (.bool true)], 0), ([.v 8], 0)] [.ite (.v 1) (.leaf 0) <|
  .blk (
   .call 55 [.node [.cell (.v 0) 2, .cell (.v 0) 3], .c (.int .i64 (0)), .c (.int .i64 (100000))] <|
   .ite (.v 2) (.call 55 [.node [.cell (.v 0) 4, .cell (.v 0) 5], .c (.int .i64 (0)), .c (.int .i64 (100000))] <|
    .ite (.v 3) (.call 55 [.node [.cell (.v 0) 6, .cell (.v 0) 7], .c (.int .i64 (0)), .c (.int .i64 (100000))] <|
     .ite (.v 4) (.call 55 [.node [.cell (.v 0) 8, .cell (.v 0) 9], .c (.int .i64 (0)), .c (.int .i64 (100000))] <|
      .ite (.v 5) (.call 55 [.node [.cell (.v 0) 10, .cell (.v 0) 11], .c (.int .i64 (0)), .c (.int .i64 (100000))] <|
       .ite (.v 6) (.call 55 [.node [.cell (.v 0) 12, .cell (.v 0) 13], .c (.int .i64 (0)), .c (.int .i64 (100000))] <|
        .leaf 0) <|
       .leaf 1) <|
      .leaf 2) <|
     .leaf 3) <|
    .leaf 4) <|
   .leaf 5) [([.v 7], 0), ([.c (.bool false)], 0), ([.c (.bool false)], 0), ([.c (.bool false)], 0), ([.c (.bool false)], 0), ([.c (.bool false)], 0)] [.leaf 1]],
 [.c (.bool false), .v 2], .e⟩
def F54 : Fn := ⟨[none, none, none],
 .blk (
  .op (.bin .geq) [.v 0, .v 1] <|
  .ite (.v 3) (.op (.bin .leq) [.v 0, .v 2] <|
   .leaf 0) <|
  .leaf 1) [([.v 4], 0), ([.c (.bool false)], 0)] [.leaf 0],
 [.v 3], .e⟩
def F55 : Fn := ⟨[(some 2), none, none],
 .blk (
  .call 54 [.cell (.v 0) 0, .v 1, .cell (.v 0) 1] <|
  .ite (.v 3) (.op (.bin .leq) [.cell (.v 0) 1, .v 2] <|
   .leaf 0) <|
  .leaf 1) [([.v 4], 0), ([.c (.bool false)], 0)] [.leaf 0],
 [.v 3], .e⟩
def F56 : Fn := ⟨[(some 2)],
 .blk (
  .op .len [.cell (.v 0) 0] <|
  .call 57 [.v 1, .c (.int .i64 (1)), .c (.int .i64 (12))] <|
  .op (.un .not) [.v 2] <|
  .ite (.v 3) (.leaf 0) <|
  .op .len [.cell (.v 0) 1] <|
  .op (.bin .gtr) [.v 4, .c (.int .i64 (24))] <|
  .leaf 1) [([.c (.bool true)], 0), ([.v 5], 0)] [.ite (.v 1) (.leaf 0) <|
  .loop [.c (.int .i64 (0))] (
   .op .len [.cell (.v 0) 0] <|
   .op (.bin .lss) [.v 2, .v 3] <|
   .ite (.v 4) (.op (.idx 9) [.cell (.v 0) 0, .v 2] <|
    .op (.elem 0 (some 9)) [.cell (.v 0) 0, .v 2] <|
    .blk (
     .call 57 [.cell (.v 6) 0, .c (.int .i64 (-10000000)), .c (.int .i64 (10000000))] <|
     .op (.un .not) [.v 7] <|
     .ite (.v 8) (.leaf 0) <|
     .call 57 [.cell (.v 6) 1, .c (.int .i64 (-10000000)), .c (.int .i64 (10000000))] <|
     .op (.un .not) [.v 9] <|
     .ite (.v 10) (.leaf 1) <|
     .call 57 [.cell (.v 6) 2, .c (.int .i64 (0)), .c (.int .i64 (200))] <|
     .op (.un .not) [.v 11] <|
     .ite (.v 12) (.leaf 2) <|
     .call 87 [.node [.cell (.v 6) 3, .cell (.v 6) 4], .c (.int .i64 (0)), .c (.int .i64 (10000000))] <|
     .op (.un .not) [.v 13] <|
     .ite (.v 14) (.leaf 3) <|
     .call 57 [.cell (.v 6) 5, .c (.int .i64 (0)), .c (.int .i64 (1000000000))] <|
     .op (.un .not) [.v 15] <|
     .ite (.v 16) (.leaf 4) <|
     .call 87 [.node [.cell (.v 6) 6, .cell (.v 6) 7], .c (.int .i64 (0)), .cell (.v 6) 5] <|
     .op (.un .not) [.v 17] <|
     .ite (.v 18) (.leaf 5) <|
     .call 57 [.cell (.v 6) 8, .c (.int .i64 (0)), .c (.int .i64 (9999))] <|
     .op (.un .not) [.v 19] <|
     .leaf 6) [([.c (.bool true)], 0), ([.c (.bool true)], 0), ([.c (.bool true)], 0), ([.c (.bool true)], 0), ([.c (.bool true)], 0), ([.c (.bool true)], 0), ([.v 20], 0)] [.ite (.v 7) (.leaf 0) <|
     .op (.bin .add) [.v 2, .c (.int .i64 (1))] <|
     .leaf 1]) <|
   .leaf 2) [([], some 0), ([.v 8], none), ([], some 1)] [.leaf 1,
   .loop [.c (.int .i64 (0))] (
    .op .len [.cell (.v 0) 1] <|
    .op (.bin .lss) [.v 2, .v 3] <|
    .ite (.v 4) (.blk (
      .op (.idx 5) [.cell (.v 0) 1, .v 2] <|
      .op (.elem 0 (some 5)) [.cell (.v 0) 1, .v 2] <|
      .blk (
       .op .len [.cell (.v 0) 0] <|
       .op (.bin .sub) [.v 7, .c (.int .i64 (1))] <|
       .call 57 [.cell (.v 6) 0, .c (.int .i64 (0)), .v 8] <|
       .op (.un .not) [.v 9] <|
       .ite (.v 10) (.leaf 0) <|
       .op .len [.cell (.v 0) 0] <|
       .op (.bin .sub) [.v 11, .c (.int .i64 (1))] <|
       .call 57 [.cell (.v 6) 1, .c (.int .i64 (0)), .v 12] <|
       .op (.un .not) [.v 13] <|
       .ite (.v 14) (.leaf 1) <|
       .op (.bin .eql) [.cell (.v 6) 0, .cell (.v 6) 1] <|
       .ite (.v 15) (.leaf 2) <|
       .call 87 [.node [.cell (.v 6) 2, .cell (.v 6) 3], .c (.int .i64 (1)), .c (.int .i64 (1000000))] <|
       .op (.un .not) [.v 16] <|
       .ite (.v 17) (.leaf 3) <|
       .op .len [.cell (.v 6) 4] <|
       .op (.bin .gtr) [.v 18, .c (.int .i64 (6))] <|
       .leaf 4) [([.c (.bool true)], 0), ([.c (.bool true)], 0), ([.c (.bool true)], 0), ([.c (.bool true)], 0), ([.v 19], 0)] [.ite (.v 7) (.leaf 0) <|
       .loop [.c (.int .i64 (-1)), .c (.int .i64 (0))] (
        .op .len [.cell (.v 6) 4] <|
        .op (.bin .lss) [.v 9, .v 10] <|
        .ite (.v 11) (.op (.idx 4) [.cell (.v 6) 4, .v 9] <|
         .op (.elem 0 (some 4)) [.cell (.v 6) 4, .v 9] <|
         .blk (
          .call 87 [.node [.cell (.v 13) 0, .cell (.v 13) 1], .c (.int .i64 (0)), .c (.int .i64 (100000))] <|
          .op (.un .not) [.v 14] <|
          .ite (.v 15) (.leaf 0) <|
          .call 87 [.node [.cell (.v 13) 2, .cell (.v 13) 3], .c (.int .i64 (0)), .c (.int .i64 (100000))] <|
          .op (.un .not) [.v 16] <|
          .ite (.v 17) (.leaf 1) <|
          .op (.bin .gtr) [.cell (.v 13) 0, .cell (.v 13) 3] <|
          .ite (.v 18) (.leaf 2) <|
          .op (.bin .leq) [.cell (.v 13) 0, .v 8] <|
          .leaf 3) [([.c (.bool true)], 0), ([.c (.bool true)], 0), ([.c (.bool true)], 0), ([.v 19], 0)] [.ite (.v 14) (.leaf 0) <|
          .op (.bin .add) [.v 9, .c (.int .i64 (1))] <|
          .leaf 1]) <|
        .leaf 2) [([], some 0), ([.cell (.v 13) 3, .v 15], none), ([], some 1)] [.leaf 1,
        .leaf 2]]) [([], 0), ([], 0), ([], 1)] [.leaf 0,
      .op (.bin .add) [.v 2, .c (.int .i64 (1))] <|
      .leaf 1]) <|
    .leaf 2) [([], some 0), ([.v 5], none), ([], some 1)] [.leaf 2,
    .leaf 3]]],
 [.c (.bool false), .c (.bool false), .c (.bool false), .c (.bool true)], .e⟩
def F57 : Fn := ⟨[none, none, none],
 .blk (
  .op (.bin .geq) [.v 0, .v 1] <|
  .ite (.v 3) (.op (.bin .leq) [.v 0, .v 2] <|
   .leaf 0) <|
  .leaf 1) [([.v 4], 0), ([.c (.bool false)], 0)] [.leaf 0],
 [.v 3], .e⟩
def F58 : Fn := ⟨[(some 17)],
 .blk (
  .op (.bin .lss) [.cell (.v 0) 0, .c (.int .i64 (1))] <|
  .ite (.v 1) (.leaf 0) <|
  .op (.bin .gtr) [.cell (.v 0) 0, .c (.int .i64 (1000000))] <|
  .ite (.v 2) (.leaf 1) <|
  .op (.bin .lss) [.cell (.v 0) 1, .c (.int .i64 (1))] <|
  .ite (.v 3) (.leaf 2) <|
  .op (.bin .gtr) [.cell (.v 0) 1, .c (.int .i64 (1000000))] <|
  .leaf 3) [([.c (.bool true)], 0), ([.c (.bool true)], 0), ([.c (.bool true)], 0), ([.v 4], 0)] [.blk (
   .ite (.v 1) (.leaf 0) <|
   .op (.listOf 2 6 [.int .i64 (0), .int .i64 (0)] [0, 1, 2, 3, 4, 5]) [.cell (.v 0) 2, .cell (.v 0) 3, .cell (.v 0) 4, .cell (.v 0) 5, .cell (.v 0) 6, .cell (.v 0) 7, .cell (.v 0) 8, .cell (.v 0) 9, .cell (.v 0) 10, .cell (.v 0) 11, .cell (.v 0) 12, .cell (.v 0) 13] <|
   .call 88 [.c (.int .i64 (100000)), .v 2] <|
   .flat (.v 3) <|
   .op (.un .not) [.v 3] <|
   .blk (
    .ite (.v 4) (.leaf 0) <|
    .blk (
     .op (.bin .lss) [.cell (.v 0) 14, .c (.int .i64 (0))] <|
     .ite (.v 5) (.leaf 0) <|
     .op (.bin .gtr) [.cell (.v 0) 14, .c (.int .i64 (1000))] <|
     .ite (.v 6) (.leaf 1) <|
     .op (.listOf 2 1 [.int .i64 (0), .int .i64 (0)] [0]) [.cell (.v 0) 15, .cell (.v 0) 16] <|
     .call 88 [.c (.int .i64 (1000000)), .v 7] <|
     .flat (.v 8) <|
     .op (.un .not) [.v 8] <|
     .leaf 2) [([.c (.bool true)], 0), ([.c (.bool true)], 0), ([.v 9], 0)] [.ite (.v 5) (.leaf 1) <|
     .leaf 2]) [([], 0), ([], 0), ([], 1)] [.leaf 1,
    .leaf 2]) [([], 0), ([], 0), ([], 1)] [.leaf 0,
   .leaf 1]],
 [.c (.int .i64 (10)), .c (.int .i64 (0))], .e⟩
def F59 : Fn := ⟨[(some 17), (some 7)],
 .call 58 [.node [.cell (.v 0) 0, .cell (.v 0) 1, .cell (.v 0) 2, .cell (.v 0) 3, .cell (.v 0) 4, .cell (.v 0) 5, .cell (.v 0) 6, .cell (.v 0) 7, .cell (.v 0) 8, .cell (.v 0) 9, .cell (.v 0) 10, .cell (.v 0) 11, .cell (.v 0) 12, .cell (.v 0) 13, .cell (.v 0) 14, .cell (.v 0) 15, .cell (.v 0) 16]] <|
 .op (.bin .neq) [.v 2, .c (.int .i64 (0))] <|
 .ite (.v 3) (.leaf 0) <|
 .blk (
  .op (.listOf 2 1 [.int .i64 (0), .int .i64 (0)] [0]) [.cell (.v 1) 0, .cell (.v 1) 1] <|
  .call 88 [.cell (.v 0) 0, .v 4] <|
  .flat (.v 5) <|
  .op (.un .not) [.v 5] <|
  .ite (.v 6) (.leaf 0) <|
  .op (.listOf 2 1 [.int .i64 (0), .int .i64 (0)] [0]) [.cell (.v 1) 2, .cell (.v 1) 3] <|
  .call 88 [.cell (.v 0) 1, .v 7] <|
  .flat (.v 8) <|
  .op (.un .not) [.v 8] <|
  .ite (.v 9) (.leaf 1) <|
  .op (.listOf 2 1 [.int .i64 (0), .int .i64 (0)] [0]) [.cell (.v 1) 4, .cell (.v 1) 5] <|
  .call 88 [.c (.int .i64 (1000)), .v 10] <|
  .flat (.v 11) <|
  .op (.un .not) [.v 11] <|
  .leaf 2) [([.c (.bool true)], 0), ([.c (.bool true)], 0), ([.v 12], 0)] [.ite (.v 4) (.leaf 1) <|
  .leaf 2],
 [.v 2, .c (.int .i64 (11)), .c (.int .i64 (0))], .e⟩
def F60 : Fn := ⟨[none],
 .op .len [.v 0] <|
 .loop [.c (.int .i64 (0))] (
  .op (.bin .lss) [.v 2, .v 1] <|
  .ite (.v 3) (.op (.idx 8) [.v 0, .v 2] <|
   .op (.elem 0 (some 8)) [.v 0, .v 2] <|
   .blk (
    .op (.bin .lss) [.cell (.v 5) 0, .c (.int .i64 (0))] <|
    .ite (.v 6) (.leaf 0) <|
    .op (.bin .gtr) [.cell (.v 5) 0, .c (.int .i64 (24))] <|
    .ite (.v 7) (.leaf 1) <|
    .op (.bin .lss) [.cell (.v 5) 1, .c (.int .i64 (0))] <|
    .ite (.v 8) (.leaf 2) <|
    .op (.bin .gtr) [.cell (.v 5) 1, .c (.int .i64 (1000000))] <|
    .leaf 3) [([.c (.bool true)], 0), ([.c (.bool true)], 0), ([.c (.bool true)], 0), ([.v 9], 0)] [.blk (
     .ite (.v 6) (.leaf 0) <|
     .blk (
      .op (.listOf 2 1 [.int .i64 (0), .int .i64 (0)] [0]) [.cell (.v 5) 2, .cell (.v 5) 3] <|
      .call 88 [.c (.int .i64 (60)), .v 7] <|
      .flat (.v 8) <|
      .op (.un .not) [.v 8] <|
      .ite (.v 9) (.leaf 0) <|
      .op (.listOf 2 2 [.int .i64 (0), .int .i64 (0)] [0, 1]) [.cell (.v 5) 4, .cell (.v 5) 5, .cell (.v 5) 6, .cell (.v 5) 7] <|
      .call 88 [.c (.int .i64 (1000000)), .v 10] <|
      .flat (.v 11) <|
      .op (.un .not) [.v 11] <|
      .leaf 1) [([.c (.bool true)], 0), ([.v 12], 0)] [.ite (.v 7) (.leaf 1) <|
      .leaf 2]) [([], 0), ([], 0), ([], 1)] [.leaf 0,
     .op (.bin .add) [.v 2, .c (.int .i64 (1))] <|
     .leaf 1]]) <|
  .leaf 2) [([], some 0), ([.v 7], none), ([], some 1)] [.leaf 0,
  .leaf 1],
 [.c (.int .i64 (12)), .c (.int .i64 (0))], .e⟩
def F61 : Fn := ⟨[(some 17), (some 7)],
 .leaf 0,
 [.node [.cell (.v 0) 0, .cell (.v 0) 1, .cell (.v 0) 2, .cell (.v 0) 3, .cell (.v 0) 4, .cell (.v 0) 5, .cell (.v 0) 6, .cell (.v 0) 7, .cell (.v 0) 8, .cell (.v 0) 9, .cell (.v 0) 10, .cell (.v 0) 11, .cell (.v 0) 12, .cell (.v 0) 13, .cell (.v 0) 14, .cell (.v 0) 15, .cell (.v 0) 16, .cell (.v 1) 0, .cell (.v 1) 1, .cell (.v 1) 2, .cell (.v 1) 3, .cell (.v 1) 4, .cell (.v 1) 5, .cell (.v 1) 6]], .node [.e, .e, .e, .e, .e, .e, .e, .e, .e, .e, .e, .e, .e, .e, .e, .e, .e, .e, .e, .e, .e, .e, .e, .e]⟩
def F62 : Fn := ⟨[(some 24), (some 8)],
 .op (.bin .sub) [.cell (.v 1) 2, .c (.int .i64 (20))] <|
 .op (.mx true) [.c (.int .i64 (0)), .v 2] <|
 .op (.bin .sub) [.cell (.v 1) 3, .c (.int .i64 (20))] <|
 .op (.mx true) [.c (.int .i64 (0)), .v 4] <|
 .op (.bin .add) [.c (.int .i64 (100000)), .cell (.v 1) 1] <|
 .op (.bin .mul) [.cell (.v 1) 0, .v 6] <|
 .call 89 [.v 7] <|
 .op (.listOf 2 2 [.int .i64 (0), .int .i64 (0)] [0, 1]) [.cell (.v 0) 4, .cell (.v 0) 5, .v 3, .v 5] <|
 .call 91 [.c (.int .i64 (1)), .v 9] <|
 .flat (.cell (.v 10) 0) <|
 .flat (.cell (.v 10) 1) <|
 .op (.listOf 2 2 [.int .i64 (0), .int .i64 (0)] [0, 1]) [.cell (.v 0) 6, .cell (.v 0) 7, .cell (.v 8) 0, .cell (.v 8) 1] <|
 .call 91 [.c (.int .i64 (100000)), .v 11] <|
 .flat (.cell (.v 12) 0) <|
 .flat (.cell (.v 12) 1) <|
 .op (.listOf 2 3 [.int .i64 (0), .int .i64 (0)] [0, 1, 2]) [.cell (.v 0) 2, .cell (.v 0) 3, .cell (.v 10) 0, .cell (.v 10) 1, .cell (.v 12) 0, .cell (.v 12) 1] <|
 .call 90 [.v 13] <|
 .flat (.cell (.v 14) 0) <|
 .flat (.cell (.v 14) 1) <|
 .blk (
  .ite (.cell (.v 0) 23) (.op (.listOf 2 2 [.int .i64 (0), .int .i64 (0)] [0, 1]) [.cell (.v 14) 0, .cell (.v 14) 1, .cell (.v 0) 12, .cell (.v 0) 13] <|
   .call 90 [.v 15] <|
   .flat (.cell (.v 16) 0) <|
   .flat (.cell (.v 16) 1) <|
   .leaf 0) <|
  .leaf 1) [([.cell (.v 16) 0, .cell (.v 16) 1], 0), ([.cell (.v 14) 0, .cell (.v 14) 1], 0)] [.op (.listOf 2 2 [.int .i64 (0), .int .i64 (0)] [0, 1]) [.cell (.v 0) 8, .cell (.v 0) 9, .cell (.v 8) 0, .cell (.v 8) 1] <|
  .call 91 [.c (.int .i64 (100000)), .v 17] <|
  .flat (.cell (.v 18) 0) <|
  .flat (.cell (.v 18) 1) <|
  .op (.bin .mul) [.cell (.v 1) 0, .cell (.v 1) 1] <|
  .call 89 [.v 19] <|
  .op (.listOf 2 2 [.int .i64 (0), .int .i64 (0)] [0, 1]) [.cell (.v 0) 10, .cell (.v 0) 11, .cell (.v 20) 0, .cell (.v 20) 1] <|
  .call 91 [.c (.int .i64 (1000000)), .v 21] <|
  .flat (.cell (.v 22) 0) <|
  .flat (.cell (.v 22) 1) <|
  .leaf 0],
 [.node [.v 15, .v 16, .cell (.v 18) 0, .cell (.v 18) 1, .cell (.v 22) 0, .cell (.v 22) 1]], .node [.e, .e, .e, .e, .e, .e]⟩
def F63 : Fn := ⟨[(some 24), (some 8)],
 .call 62 [.node [.cell (.v 0) 0, .cell (.v 0) 1, .cell (.v 0) 2, .cell (.v 0) 3, .cell (.v 0) 4, .cell (.v 0) 5, .cell (.v 0) 6, .cell (.v 0) 7, .cell (.v 0) 8, .cell (.v 0) 9, .cell (.v 0) 10, .cell (.v 0) 11, .cell (.v 0) 12, .cell (.v 0) 13, .cell (.v 0) 14, .cell (.v 0) 15, .cell (.v 0) 16, .cell (.v 0) 17, .cell (.v 0) 18, .cell (.v 0) 19, .cell (.v 0) 20, .cell (.v 0) 21, .cell (.v 0) 22, .cell (.v 0) 23], .node [.cell (.v 1) 0, .cell (.v 1) 1, .cell (.v 1) 2, .cell (.v 1) 3, .cell (.v 1) 4, .cell (.v 1) 5, .cell (.v 1) 6, .cell (.v 1) 7]] <|
 .blk (
  .op (.bin .lss) [.cell (.v 0) 18, .cell (.v 2) 0] <|
  .ite (.v 3) (.leaf 0) <|
  .op (.bin .lss) [.cell (.v 0) 17, .cell (.v 2) 1] <|
  .blk (
   .ite (.v 4) (.leaf 0) <|
   .leaf 1) [([.c (.int .u8 (1))], 0), ([.c (.int .u8 (0))], 0)] [.op (.bin .lss) [.cell (.v 0) 20, .cell (.v 2) 2] <|
   .ite (.v 6) (.leaf 1) <|
   .op (.bin .lss) [.cell (.v 0) 19, .cell (.v 2) 3] <|
   .blk (
    .ite (.v 7) (.leaf 0) <|
    .leaf 1) [([.c (.int .u8 (1))], 0), ([.v 5], 0)] [.leaf 2]]) [([], 0), ([], 0), ([.v 8], 1)] [.leaf 0,
  .op (.bin .eql) [.cell (.v 1) 0, .c (.int .i64 (0))] <|
  .blk (
   .ite (.v 4) (.leaf 0) <|
   .leaf 1) [([.cell (.v 0) 14], 0), ([.c (.int .i64 (0))], 0)] [.call 92 [.node [.cell (.v 0) 17, .cell (.v 0) 18], .node [.cell (.v 2) 0, .cell (.v 2) 1], .node [.cell (.v 1) 6, .cell (.v 1) 7], .cell (.v 0) 0] <|
   .call 92 [.node [.cell (.v 0) 19, .cell (.v 0) 20], .node [.cell (.v 2) 2, .cell (.v 2) 3], .node [.cell (.v 1) 4, .cell (.v 1) 5], .cell (.v 0) 1] <|
   .op (.listOf 2 2 [.int .i64 (0), .int .i64 (0)] [0, 1]) [.cell (.v 0) 21, .cell (.v 0) 22, .cell (.v 2) 4, .cell (.v 2) 5] <|
   .call 90 [.v 8] <|
   .flat (.cell (.v 9) 0) <|
   .flat (.cell (.v 9) 1) <|
   .call 89 [.v 5] <|
   .call 94 [.node [.cell (.v 9) 0, .cell (.v 9) 1], .node [.cell (.v 10) 0, .cell (.v 10) 1]] <|
   .call 93 [.node [.cell (.v 11) 0, .cell (.v 11) 1], .c (.int .i64 (1000))] <|
   .leaf 1]],
 [.node [.node [.c (.int .i64 (0)), .c (.int .i64 (0)), .c (.int .i64 (0)), .c (.int .i64 (0)), .c (.int .i64 (0)), .c (.int .i64 (0)), .c (.int .i64 (0)), .c (.int .i64 (0)), .c (.int .i64 (0)), .c (.int .i64 (0)), .c (.int .i64 (0)), .c (.int .i64 (0)), .c (.int .i64 (0)), .c (.int .i64 (0)), .c (.int .i64 (0)), .c (.int .i64 (0)), .c (.int .i64 (0)), .c (.int .i64 (0)), .c (.int .i64 (0)), .c (.int .i64 (0)), .c (.int .i64 (0)), .c (.int .i64 (0)), .c (.int .i64 (0)), .c (.bool false)], .c (.int .u8 (2))], .node [.node [.cell (.v 0) 0, .cell (.v 0) 1, .cell (.v 0) 2, .cell (.v 0) 3, .cell (.v 0) 4, .cell (.v 0) 5, .cell (.v 0) 6, .cell (.v 0) 7, .cell (.v 0) 8, .cell (.v 0) 9, .cell (.v 0) 10, .cell (.v 0) 11, .cell (.v 0) 12, .cell (.v 0) 13, .cell (.v 0) 14, .cell (.v 0) 15, .cell (.v 0) 16, .cell (.v 6) 0, .cell (.v 6) 1, .cell (.v 7) 0, .cell (.v 7) 1, .cell (.v 12) 0, .cell (.v 12) 1, .cell (.v 0) 23], .v 3]], .tup [.node [.e, .e, .e, .e, .e, .e, .e, .e, .e, .e, .e, .e, .e, .e, .e, .e, .e, .e, .e, .e, .e, .e, .e, .e], .e]⟩
def F64 : Fn := ⟨[(some 24)],
 .leaf 0,
 [.node [.cell (.v 0) 17, .cell (.v 0) 18, .cell (.v 0) 19, .cell (.v 0) 20, .cell (.v 0) 21, .cell (.v 0) 22, .cell (.v 0) 23]], .node [.e, .e, .e, .e, .e, .e, .e]⟩
def F65 : Fn := ⟨[(some 2)],
 .call 95 [.node [.cell (.v 0) 0, .cell (.v 0) 1]] <|
 .op (.un .not) [.v 1] <|
 .ite (.v 2) (.leaf 0) <|
 .leaf 1,
 [.c (.int .i64 (30)), .c (.int .i64 (0))], .e⟩
def F66 : Fn := ⟨[none, none],
 .op .len [.v 1] <|
 .op (.bin .sub) [.v 2, .c (.int .i64 (1))] <|
 .call 96 [.v 0, .c (.int .i64 (0)), .v 3] <|
 .leaf 0,
 [.v 4], .e⟩
def F67 : Fn := ⟨[none],
 .call 96 [.v 0, .c (.int .i64 (0)), .c (.int .i64 (100000))] <|
 .leaf 0,
 [.v 1], .e⟩
def F68 : Fn := ⟨[none, none],
 .op .len [.v 0] <|
 .loop [.c (.int .i64 (0)), .c (.int .i64 (0))] (
  .op (.bin .lss) [.v 4, .v 2] <|
  .ite (.v 5) (.op (.idx 3) [.v 0, .v 4] <|
   .op (.elem 0 (some 3)) [.v 0, .v 4] <|
   .blk (
    .call 66 [.cell (.v 7) 0, .v 1] <|
    .op (.un .not) [.v 8] <|
    .ite (.v 9) (.leaf 0) <|
    .call 96 [.cell (.v 7) 1, .v 3, .c (.int .i64 (100000))] <|
    .op (.un .not) [.v 10] <|
    .ite (.v 11) (.leaf 1) <|
    .call 96 [.cell (.v 7) 2, .c (.int .i64 (0)), .c (.int .i64 (1000000000))] <|
    .op (.un .not) [.v 12] <|
    .leaf 2) [([.c (.bool true)], 0), ([.c (.bool true)], 0), ([.v 13], 0)] [.ite (.v 8) (.leaf 0) <|
    .op (.bin .add) [.v 4, .c (.int .i64 (1))] <|
    .leaf 1]) <|
  .leaf 2) [([], some 0), ([.cell (.v 7) 1, .v 9], none), ([], some 1)] [.leaf 0,
  .leaf 1],
 [.c (.bool false), .c (.bool true)], .e⟩
def F69 : Fn := ⟨[(some 9), none],
 .op (.bin .mul) [.v 1, .cell (.v 0) 3] <|
 .op (.bin .add) [.cell (.v 0) 6, .v 2] <|
 .op (.mx false) [.cell (.v 0) 5, .v 3] <|
 .op (.bin .mul) [.v 1, .cell (.v 0) 4] <|
 .op (.bin .add) [.cell (.v 0) 7, .v 5] <|
 .op (.mx false) [.cell (.v 0) 5, .v 6] <|
 .leaf 0,
 [.node [.v 4, .v 7]], .node [.e, .e]⟩
def F87 : Fn := ⟨[(some 2), none, none],
 .blk (
  .call 57 [.cell (.v 0) 0, .v 1, .cell (.v 0) 1] <|
  .ite (.v 3) (.op (.bin .leq) [.cell (.v 0) 1, .v 2] <|
   .leaf 0) <|
  .leaf 1) [([.v 4], 0), ([.c (.bool false)], 0)] [.leaf 0],
 [.v 3], .e⟩
def F88 : Fn := ⟨[none, none],
 .op .len [.v 1] <|
 .loop [.c (.int .i64 (0))] (
  .op (.bin .lss) [.v 3, .v 2] <|
  .ite (.v 4) (.op (.idx 2) [.v 1, .v 3] <|
   .op (.elem 0 (some 2)) [.v 1, .v 3] <|
   .blk (
    .op (.bin .lss) [.cell (.v 6) 0, .c (.int .i64 (0))] <|
    .ite (.v 7) (.leaf 0) <|
    .op (.bin .gtr) [.cell (.v 6) 0, .cell (.v 6) 1] <|
    .ite (.v 8) (.leaf 1) <|
    .op (.bin .gtr) [.cell (.v 6) 1, .v 0] <|
    .leaf 2) [([.c (.bool true)], 0), ([.c (.bool true)], 0), ([.v 9], 0)] [.ite (.v 7) (.leaf 0) <|
    .op (.bin .add) [.v 3, .c (.int .i64 (1))] <|
    .leaf 1]) <|
  .leaf 2) [([], some 0), ([.v 8], none), ([], some 1)] [.leaf 0,
  .leaf 1],
 [.c (.bool false), .c (.bool true)], .e⟩
def F89 : Fn := ⟨[none],
 .leaf 0,
 [.node [.v 0, .v 0]], .node [.e, .e]⟩
def F90 : Fn := ⟨[none],
 .op .len [.v 0] <|
 .loop [.c (.int .i64 (0)), .c (.int .i64 (0)), .c (.int .i64 (0))] (
  .op (.bin .lss) [.v 2, .v 1] <|
  .ite (.v 5) (.op (.idx 2) [.v 0, .v 2] <|
   .op (.elem 0 (some 2)) [.v 0, .v 2] <|
   .op (.bin .add) [.v 3, .cell (.v 7) 0] <|
   .op (.bin .add) [.v 4, .cell (.v 7) 1] <|
   .op (.bin .add) [.v 2, .c (.int .i64 (1))] <|
   .leaf 0) <|
  .leaf 1) [([.v 10, .v 8, .v 9], none), ([.v 3, .v 4], some 0)] [.leaf 0],
 [.node [.v 2, .v 3]], .node [.e, .e]⟩
def F91 : Fn := ⟨[none, none],
 .call 89 [.c (.int .i64 (1))] <|
 .op .len [.v 1] <|
 .loop [.c (.int .i64 (0)), .cell (.v 2) 0, .cell (.v 2) 1] (
  .op (.bin .lss) [.v 4, .v 3] <|
  .ite (.v 7) (.op (.idx 2) [.v 1, .v 4] <|
   .op (.elem 0 (some 2)) [.v 1, .v 4] <|
   .op (.bin .mul) [.v 5, .cell (.v 9) 0] <|
   .op (.bin .mul) [.v 6, .cell (.v 9) 1] <|
   .op (.bin .add) [.v 4, .c (.int .i64 (1))] <|
   .leaf 0) <|
  .leaf 1) [([.v 12, .v 10, .v 11], none), ([.v 5, .v 6], some 0)] [.op (.bin .quo) [.v 4, .v 0] <|
  .op (.bin .add) [.v 5, .v 0] <|
  .op (.bin .sub) [.v 7, .c (.int .i64 (1))] <|
  .op (.bin .quo) [.v 8, .v 0] <|
  .leaf 0],
 [.node [.v 6, .v 9]], .node [.e, .e]⟩
def F92 : Fn := ⟨[(some 2), (some 2), (some 2), none],
 .call 94 [.node [.cell (.v 0) 0, .cell (.v 0) 1], .node [.cell (.v 1) 0, .cell (.v 1) 1]] <|
 .call 93 [.node [.cell (.v 4) 0, .cell (.v 4) 1], .v 3] <|
 .op (.listOf 2 2 [.int .i64 (0), .int .i64 (0)] [0, 1]) [.cell (.v 5) 0, .cell (.v 5) 1, .cell (.v 2) 0, .cell (.v 2) 1] <|
 .call 90 [.v 6] <|
 .flat (.cell (.v 7) 0) <|
 .flat (.cell (.v 7) 1) <|
 .call 93 [.node [.cell (.v 7) 0, .cell (.v 7) 1], .v 3] <|
 .leaf 0,
 [.node [.cell (.v 8) 0, .cell (.v 8) 1]], .node [.e, .e]⟩
def F93 : Fn := ⟨[(some 2), none],
 .op (.mx true) [.cell (.v 0) 0, .c (.int .i64 (0))] <|
 .op (.mx false) [.v 2, .v 1] <|
 .op (.mx true) [.cell (.v 0) 1, .c (.int .i64 (0))] <|
 .op (.mx false) [.v 4, .v 1] <|
 .leaf 0,
 [.node [.v 3, .v 5]], .node [.e, .e]⟩
def F94 : Fn := ⟨[(some 2), (some 2)],
 .op (.bin .sub) [.cell (.v 0) 0, .cell (.v 1) 1] <|
 .op (.bin .sub) [.cell (.v 0) 1, .cell (.v 1) 0] <|
 .leaf 0,
 [.node [.v 2, .v 3]], .node [.e, .e]⟩
def F95 : Fn := ⟨[(some 2)],
 .blk (
  .op .len [.cell (.v 0) 0] <|
  .call 96 [.v 1, .c (.int .i64 (1)), .c (.int .i64 (12))] <|
  .op (.un .not) [.v 2] <|
  .ite (.v 3) (.leaf 0) <|
  .op .len [.cell (.v 0) 1] <|
  .op (.bin .gtr) [.v 4, .c (.int .i64 (24))] <|
  .leaf 1) [([.c (.bool true)], 0), ([.v 5], 0)] [.ite (.v 1) (.leaf 0) <|
  .op .len [.cell (.v 0) 0] <|
  .loop [.c (.int .i64 (0))] (
   .op (.bin .lss) [.v 3, .v 2] <|
   .ite (.v 4) (.op (.idx 9) [.cell (.v 0) 0, .v 3] <|
    .op (.elem 0 (some 9)) [.cell (.v 0) 0, .v 3] <|
    .call 119 [.node [.cell (.v 6) 0, .cell (.v 6) 1, .cell (.v 6) 2, .cell (.v 6) 3, .cell (.v 6) 4, .cell (.v 6) 5, .cell (.v 6) 6, .cell (.v 6) 7, .cell (.v 6) 8]] <|
    .op (.un .not) [.v 7] <|
    .ite (.v 8) (.leaf 0) <|
    .op (.bin .add) [.v 3, .c (.int .i64 (1))] <|
    .leaf 1) <|
   .leaf 2) [([], some 0), ([.v 9], none), ([], some 1)] [.leaf 1,
   .op .len [.cell (.v 0) 1] <|
   .loop [.c (.int .i64 (0))] (
    .op (.bin .lss) [.v 4, .v 3] <|
    .ite (.v 5) (.op (.idx 5) [.cell (.v 0) 1, .v 4] <|
     .op (.elem 0 (some 5)) [.cell (.v 0) 1, .v 4] <|
     .blk (
      .call 66 [.cell (.v 7) 0, .cell (.v 0) 0] <|
      .op (.un .not) [.v 8] <|
      .ite (.v 9) (.leaf 0) <|
      .call 66 [.cell (.v 7) 1, .cell (.v 0) 0] <|
      .op (.un .not) [.v 10] <|
      .ite (.v 11) (.leaf 1) <|
      .call 120 [.node [.cell (.v 7) 0, .cell (.v 7) 1, .cell (.v 7) 2, .cell (.v 7) 3, .cell (.v 7) 4]] <|
      .op (.un .not) [.v 12] <|
      .leaf 2) [([.c (.bool true)], 0), ([.c (.bool true)], 0), ([.v 13], 0)] [.ite (.v 8) (.leaf 0) <|
      .op (.bin .add) [.v 4, .c (.int .i64 (1))] <|
      .leaf 1]) <|
    .leaf 2) [([], some 0), ([.v 9], none), ([], some 1)] [.leaf 2,
    .leaf 3]]],
 [.c (.bool false), .c (.bool false), .c (.bool false), .c (.bool true)], .e⟩
def F96 : Fn := ⟨[none, none, none],
 .blk (
  .op (.bin .leq) [.v 1, .v 0] <|
  .ite (.v 3) (.op (.bin .leq) [.v 0, .v 2] <|
   .leaf 0) <|
  .leaf 1) [([.v 4], 0), ([.c (.bool false)], 0)] [.leaf 0],
 [.v 3], .e⟩
def F119 : Fn := ⟨[(some 9)],
 .blk (
  .call 96 [.cell (.v 0) 0, .c (.int .i64 (-10000000)), .c (.int .i64 (10000000))] <|
  .ite (.v 1) (.call 96 [.cell (.v 0) 1, .c (.int .i64 (-10000000)), .c (.int .i64 (10000000))] <|
   .ite (.v 2) (.call 96 [.cell (.v 0) 2, .c (.int .i64 (0)), .c (.int .i64 (200))] <|
    .ite (.v 3) (.call 135 [.node [.cell (.v 0) 3, .cell (.v 0) 4], .c (.int .i64 (0)), .c (.int .i64 (10000000))] <|
     .ite (.v 4) (.call 96 [.cell (.v 0) 5, .c (.int .i64 (0)), .c (.int .i64 (1000000000))] <|
      .ite (.v 5) (.call 135 [.node [.cell (.v 0) 6, .cell (.v 0) 7], .c (.int .i64 (0)), .cell (.v 0) 5] <|
       .ite (.v 6) (.call 96 [.cell (.v 0) 8, .c (.int .i64 (0)), .c (.int .i64 (9999))] <|
        .leaf 0) <|
       .leaf 1) <|
      .leaf 2) <|
     .leaf 3) <|
    .leaf 4) <|
   .leaf 5) <|
  .leaf 6) [([.v 7], 0), ([.c (.bool false)], 0), ([.c (.bool false)], 0), ([.c (.bool false)], 0), ([.c (.bool false)], 0), ([.c (.bool false)], 0), ([.c (.bool false)], 0)] [.leaf 0],
 [.v 1], .e⟩
def F120 : Fn := ⟨[(some 5)],
 .blk (
  .op (.bin .neq) [.cell (.v 0) 0, .cell (.v 0) 1] <|
  .ite (.v 1) (.call 135 [.node [.cell (.v 0) 2, .cell (.v 0) 3], .c (.int .i64 (1)), .c (.int .i64 (1000000))] <|
   .ite (.v 2) (.call 136 [.cell (.v 0) 4] <|
    .leaf 0) <|
   .leaf 1) <|
  .leaf 2) [([.v 3], 0), ([.c (.bool false)], 0), ([.c (.bool false)], 0)] [.leaf 0],
 [.v 1], .e⟩
def F135 : Fn := ⟨[(some 2), none, none],
 .blk (
  .op (.bin .leq) [.v 1, .cell (.v 0) 0] <|
  .ite (.v 3) (.op (.bin .leq) [.cell (.v 0) 0, .cell (.v 0) 1] <|
   .ite (.v 4) (.op (.bin .leq) [.cell (.v 0) 1, .v 2] <|
    .leaf 0) <|
   .leaf 1) <|
  .leaf 2) [([.v 5], 0), ([.c (.bool false)], 0), ([.c (.bool false)], 0)] [.leaf 0],
 [.v 3], .e⟩
def F136 : Fn := ⟨[none],
 .op .len [.v 0] <|
 .op (.bin .gtr) [.v 1, .c (.int .i64 (6))] <|
 .ite (.v 2) (.leaf 0) <|
 .op .len [.v 0] <|
 .loop [.c (.int .i64 (-1)), .c (.int .i64 (0))] (
  .op (.bin .lss) [.v 5, .v 3] <|
  .ite (.v 6) (.op (.idx 4) [.v 0, .v 5] <|
   .op (.elem 0 (some 4)) [.v 0, .v 5] <|
   .blk (
    .call 135 [.node [.cell (.v 8) 0, .cell (.v 8) 1], .c (.int .i64 (0)), .c (.int .i64 (100000))] <|
    .op (.un .not) [.v 9] <|
    .ite (.v 10) (.leaf 0) <|
    .call 135 [.node [.cell (.v 8) 2, .cell (.v 8) 3], .c (.int .i64 (0)), .c (.int .i64 (100000))] <|
    .op (.un .not) [.v 11] <|
    .ite (.v 12) (.leaf 1) <|
    .op (.bin .gtr) [.cell (.v 8) 0, .cell (.v 8) 3] <|
    .ite (.v 13) (.leaf 2) <|
    .op (.bin .leq) [.cell (.v 8) 0, .v 4] <|
    .leaf 3) [([.c (.bool true)], 0), ([.c (.bool true)], 0), ([.c (.bool true)], 0), ([.v 14], 0)] [.ite (.v 9) (.leaf 0) <|
    .op (.bin .add) [.v 5, .c (.int .i64 (1))] <|
    .leaf 1]) <|
  .leaf 2) [([], some 0), ([.cell (.v 8) 3, .v 10], none), ([], some 1)] [.leaf 1,
  .leaf 2],
 [.c (.bool false), .c (.bool false), .c (.bool true)], .e⟩
def FN (f : FuncId) : Option Fn :=
  match f with
  | 5 => some F5
  | 13 => some F13
  | 14 => some F14
  | 15 => some F15
  | 16 => some F16
  | 17 => some F17
  | 18 => some F18
  | 19 => some F19
  | 20 => some F20
  | 21 => some F21
  | 22 => some F22
  | 23 => some F23
  | 24 => some F24
  | 53 => some F53
  | 54 => some F54
  | 55 => some F55
  | 56 => some F56
  | 57 => some F57
  | 58 => some F58
  | 59 => some F59
  | 60 => some F60
  | 61 => some F61
  | 62 => some F62
  | 63 => some F63
  | 64 => some F64
  | 65 => some F65
  | 66 => some F66
  | 67 => some F67
  | 68 => some F68
  | 69 => some F69
  | 87 => some F87
  | 88 => some F88
  | 89 => some F89
  | 90 => some F90
  | 91 => some F91
  | 92 => some F92
  | 93 => some F93
  | 94 => some F94
  | 95 => some F95
  | 96 => some F96
  | 119 => some F119
  | 120 => some F120
  | 135 => some F135
  | 136 => some F136
  | _ => none
end Go.Q
