/- The functions as trees. -/
import Derived.Test.YtimbhebamjnfmaaJL
import Derived.Test.YtimbhebamjnfmaaChecked
set_option linter.unusedVariables false
set_option maxRecDepth 100000
namespace Go.Q
open Go.V
open Go.Proofs.Try (prog)
def isRef (f : FuncId) : Bool := [161, 186, 204, 16, 81, 42, 122, 165, 175, 109, 126].contains f
def dmR (f : FuncId) : Nat := ([((42 : FuncId), 2), ((122 : FuncId), 2), ((165 : FuncId), 2), ((175 : FuncId), 2), ((109 : FuncId), 2), ((126 : FuncId), 2)].find? (·.1 == f)).elim 0 (·.2)
noncomputable def TP : FuncId → Option IFn := fun f => cFnD prog (isRef f) (dmR f) f
theorem cFn_ref {P : Program} {b : Bool} {dm : Nat} {f : FuncId} {fn : IFn} (h : cFnD P b dm f = some fn) : fn.byref = b ∧ fn.dm = dm := by
  unfold cFnD at h
  split at h
  · cases h
  · split at h
    · cases h
    · split at h
      · cases h
      · split at h
        · cases h; exact ⟨rfl, rfl⟩
        · cases h
theorem TP_ok : TOK prog TP := fun f fn h => by
  obtain ⟨h1, h2⟩ := cFn_ref h
  rw [h1, h2]; exact h
theorem mixed : prog.follows .mixedOrders = true := by kernel_rfl
def F7 : Fn := ⟨[(some 1), none, none, none, none, none, none, (some 17), (some 7), (some 8), none],
 .call 31 [] <|
 .op (.un .not) [.v 11] <|
 .ite (.v 12) (.leaf 0) <|
 .blk (
  .call 32 [.node [.cell (.v 0) 0]] <|
  .ite (.v 13) (.leaf 0) <|
  .op .len [.v 3] <|
  .op (.bin .gtr) [.v 14, .c (.int .i64 (60))] <|
  .ite (.v 15) (.leaf 1) <|
  .op (.un .neg) [.v 1] <|
  .op (.un .neg) [.v 2] <|
  .op (.mx true) [.v 1, .v 16, .v 2, .v 17] <|
  .op (.bin .gtr) [.v 18, .c (.int .i64 (20000000))] <|
  .ite (.v 19) (.leaf 2) <|
  .op (.mx false) [.v 1, .v 2] <|
  .op (.bin .lss) [.v 20, .c (.int .i64 (-20000000))] <|
  .ite (.v 21) (.leaf 3) <|
  .call 26 [.node [.cell (.v 0) 0]] <|
  .op (.bin .neq) [.v 22, .c (.int .i64 (0))] <|
  .ite (.v 23) (.leaf 4) <|
  .call 33 [.node [.cell (.v 0) 0], .v 1, .v 2] <|
  .op (.un .not) [.v 24] <|
  .ite (.v 25) (.leaf 5) <|
  .call 34 [.node [.cell (.v 7) 0, .cell (.v 7) 1, .cell (.v 7) 2, .cell (.v 7) 3, .cell (.v 7) 4, .cell (.v 7) 5, .cell (.v 7) 6, .cell (.v 7) 7, .cell (.v 7) 8, .cell (.v 7) 9, .cell (.v 7) 10, .cell (.v 7) 11, .cell (.v 7) 12, .cell (.v 7) 13, .cell (.v 7) 14, .cell (.v 7) 15, .cell (.v 7) 16], .node [.cell (.v 8) 0, .cell (.v 8) 1, .cell (.v 8) 2, .cell (.v 8) 3, .cell (.v 8) 4, .cell (.v 8) 5, .cell (.v 8) 6]] <|
  .op (.bin .neq) [.v 26, .c (.int .i64 (0))] <|
  .ite (.v 27) (.leaf 6) <|
  .call 35 [.node [.cell (.v 9) 0, .cell (.v 9) 1, .cell (.v 9) 2, .cell (.v 9) 3, .cell (.v 9) 4, .cell (.v 9) 5, .cell (.v 9) 6, .cell (.v 9) 7]] <|
  .op (.un .not) [.v 28] <|
  .leaf 7) [([.c (.bool true)], 0), ([.c (.bool true)], 0), ([.c (.bool true)], 0), ([.c (.bool true)], 0), ([.c (.bool true)], 0), ([.c (.bool true)], 0), ([.c (.bool true)], 0), ([.v 29], 0)] [.ite (.v 13) (.leaf 1) <|
  .op (.app 6 48) [.c (.list []), .v 3] <|
  .op .len [.v 14] <|
  .loop [.c (.int .i64 (0)), .v 14] (
   .op (.bin .lss) [.v 16, .v 15] <|
   .ite (.v 18) (.call 36 [.c (.int .i64 (1)), .c (.int .i64 (1))] <|
    .op (.idx 6) [.v 17, .v 16] <|
    .op (.set 0) [.v 17, .v 16, .cell (.v 19) 0, .cell (.v 19) 1] <|
    .op (.idx 6) [.v 21, .v 16] <|
    .op (.elem 0 (some 6)) [.v 21, .v 16] <|
    .call 37 [.node [.cell (.v 23) 0, .cell (.v 23) 1, .cell (.v 23) 2, .cell (.v 23) 3, .cell (.v 23) 4, .cell (.v 23) 5]] <|
    .op (.un .not) [.v 24] <|
    .ite (.v 25) (.leaf 0) <|
    .op (.bin .add) [.v 16, .c (.int .i64 (1))] <|
    .leaf 1) <|
   .leaf 2) [([], some 0), ([.v 26, .v 21], none), ([.v 17], some 1)] [.leaf 2,
   .call 38 [.node [.cell (.v 0) 0], .v 16, .v 4, .v 5, .v 6] <|
   .flat (.cell (.v 17) 0) <|
   .flat (.cell (.v 17) 1) <|
   .flat (.cell (.v 17) 2) <|
   .call 39 [.node [.cell (.v 7) 0, .cell (.v 7) 1, .cell (.v 7) 2, .cell (.v 7) 3, .cell (.v 7) 4, .cell (.v 7) 5, .cell (.v 7) 6, .cell (.v 7) 7, .cell (.v 7) 8, .cell (.v 7) 9, .cell (.v 7) 10, .cell (.v 7) 11, .cell (.v 7) 12, .cell (.v 7) 13, .cell (.v 7) 14, .cell (.v 7) 15, .cell (.v 7) 16], .node [.cell (.v 8) 0, .cell (.v 8) 1, .cell (.v 8) 2, .cell (.v 8) 3, .cell (.v 8) 4, .cell (.v 8) 5, .cell (.v 8) 6], .node [.cell (.v 9) 0, .cell (.v 9) 1, .cell (.v 9) 2, .cell (.v 9) 3, .cell (.v 9) 4, .cell (.v 9) 5, .cell (.v 9) 6, .cell (.v 9) 7]] <|
   .blk (
    .op (.bin .neq) [.cell (.v 17) 2, .c (.int .i64 (0))] <|
    .ite (.v 19) (.leaf 0) <|
    .op (.bin .neq) [.cell (.v 18) 1, .c (.int .i64 (0))] <|
    .ite (.v 20) (.leaf 1) <|
    .op (.bin .lss) [.cell (.v 17) 1, .c (.int .i64 (0))] <|
    .ite (.v 21) (.leaf 2) <|
    .op (.bin .gtr) [.cell (.v 17) 1, .cell (.cell (.v 18) 0) 0] <|
    .leaf 3) [([.c (.bool true)], 0), ([.c (.bool true)], 0), ([.c (.bool true)], 0), ([.v 22], 0)] [.ite (.v 19) (.leaf 3) <|
    .op .len [.v 16] <|
    .op (.bin .gtr) [.cell (.v 17) 1, .v 20] <|
    .ite (.v 21) (.leaf 4) <|
    .call 41 [.v 10, .c (.int .i64 (0))] <|
    .call 40 [.node [.cell (.v 8) 0, .cell (.v 8) 1], .v 22] <|
    .op (.bin .mul) [.c (.int .i64 (100000)), .v 23] <|
    .call 41 [.v 10, .c (.int .i64 (1))] <|
    .call 40 [.node [.cell (.v 8) 2, .cell (.v 8) 3], .v 25] <|
    .op (.bin .mul) [.c (.int .i64 (100000)), .v 26] <|
    .op (.sl 6 false true) [.v 16, .cell (.v 17) 1] <|
    .op .len [.v 28] <|
    .loop [.v 1, .v 2, .v 24, .v 27, .c (.int .i64 (0))] (
     .op (.bin .lss) [.v 34, .v 29] <|
     .ite (.v 35) (.op (.idx 6) [.v 28, .v 34] <|
      .op (.elem 0 (some 6)) [.v 28, .v 34] <|
      .op (.bin .mul) [.c (.int .i64 (8)), .v 34] <|
      .op (.bin .add) [.c (.int .i64 (100000)), .cell (.v 9) 1] <|
      .op (.bin .mul) [.cell (.v 9) 0, .v 39] <|
      .call 41 [.v 10, .v 38] <|
      .call 40 [.node [.cell (.v 7) 2, .cell (.v 7) 3], .v 41] <|
      .op (.bin .add) [.v 38, .c (.int .i64 (1))] <|
      .call 41 [.v 10, .v 43] <|
      .call 40 [.node [.cell (.v 7) 4, .cell (.v 7) 5], .v 44] <|
      .op (.bin .add) [.v 38, .c (.int .i64 (2))] <|
      .call 41 [.v 10, .v 46] <|
      .call 40 [.node [.cell (.v 9) 2, .cell (.v 9) 3], .v 47] <|
      .op (.bin .sub) [.v 48, .c (.int .i64 (20))] <|
      .op (.mx true) [.c (.int .i64 (0)), .v 49] <|
      .op (.bin .mul) [.v 45, .v 50] <|
      .op (.bin .add) [.v 42, .v 51] <|
      .op (.bin .mul) [.c (.int .i64 (100000)), .v 52] <|
      .op (.bin .add) [.v 38, .c (.int .i64 (3))] <|
      .call 41 [.v 10, .v 54] <|
      .call 40 [.node [.cell (.v 7) 6, .cell (.v 7) 7], .v 55] <|
      .op (.bin .mul) [.v 56, .v 40] <|
      .op (.bin .add) [.v 53, .v 57] <|
      .op (.bin .sub) [.v 32, .v 58] <|
      .blk (
       .ite (.cell (.v 8) 6) (.op (.bin .add) [.v 38, .c (.int .i64 (4))] <|
        .call 41 [.v 10, .v 60] <|
        .call 40 [.node [.cell (.v 7) 12, .cell (.v 7) 13], .v 61] <|
        .op (.bin .mul) [.c (.int .i64 (100000)), .v 62] <|
        .op (.bin .sub) [.v 59, .v 63] <|
        .leaf 0) <|
       .leaf 1) [([.v 64], 0), ([.v 59], 0)] [.op (.bin .add) [.v 38, .c (.int .i64 (5))] <|
       .call 41 [.v 10, .v 61] <|
       .call 40 [.node [.cell (.v 7) 8, .cell (.v 7) 9], .v 62] <|
       .op (.bin .mul) [.v 63, .v 40] <|
       .op (.bin .sub) [.v 33, .v 64] <|
       .blk (
        .op (.bin .lss) [.v 60, .c (.int .i64 (0))] <|
        .ite (.v 66) (.leaf 0) <|
        .op (.bin .lss) [.v 65, .c (.int .i64 (0))] <|
        .leaf 1) [([.c (.bool true)], 0), ([.v 67], 0)] [.ite (.v 66) (.leaf 0) <|
        .op (.bin .mul) [.c (.int .i64 (100000)), .cell (.v 7) 0] <|
        .op (.bin .add) [.v 38, .c (.int .i64 (6))] <|
        .call 41 [.v 10, .v 68] <|
        .call 40 [.node [.cell (.v 9) 6, .cell (.v 9) 7], .v 69] <|
        .op (.bin .mul) [.c (.int .i64 (100000)), .v 70] <|
        .op (.bin .add) [.v 60, .v 71] <|
        .op (.mx false) [.v 67, .v 72] <|
        .op (.bin .mul) [.c (.int .i64 (100000)), .cell (.v 7) 1] <|
        .op (.bin .add) [.v 38, .c (.int .i64 (7))] <|
        .call 41 [.v 10, .v 75] <|
        .call 40 [.node [.cell (.v 9) 4, .cell (.v 9) 5], .v 76] <|
        .op (.bin .mul) [.c (.int .i64 (100000)), .v 77] <|
        .op (.bin .add) [.v 65, .v 78] <|
        .op (.mx false) [.v 74, .v 79] <|
        .op (.bin .add) [.v 38, .c (.int .i64 (2))] <|
        .call 41 [.v 10, .v 81] <|
        .call 40 [.node [.cell (.v 37) 2, .cell (.v 37) 3], .v 82] <|
        .op (.bin .add) [.v 30, .v 83] <|
        .op (.bin .add) [.v 38, .c (.int .i64 (3))] <|
        .call 41 [.v 10, .v 85] <|
        .call 40 [.node [.cell (.v 37) 4, .cell (.v 37) 5], .v 86] <|
        .op (.bin .add) [.v 31, .v 87] <|
        .op (.bin .add) [.v 34, .c (.int .i64 (1))] <|
        .leaf 1]]) <|
     .leaf 2) [([], some 0), ([.v 84, .v 88, .v 73, .v 80, .v 89], none), ([.v 30, .v 31], some 1)] [.leaf 5,
     .blk (
      .ite (.v 11) (.op (.bin .sub) [.v 30, .v 4] <|
       .op (.bin .sub) [.v 4, .v 30] <|
       .op (.bin .sub) [.v 31, .v 5] <|
       .op (.bin .sub) [.v 5, .v 31] <|
       .op (.mx true) [.v 32, .v 33, .v 34, .v 35] <|
       .op (.bin .leq) [.v 36, .v 6] <|
       .leaf 0) <|
      .leaf 1) [([.v 37], 0), ([.c (.bool false)], 0)] [.leaf 6]]]]],
 [.c (.bool false), .v 11, .v 11, .v 11, .c (.bool false), .c (.bool false), .v 32], .e⟩
def F8 : Fn := ⟨[(some 1), none, none, none, none, (some 17), (some 7), (some 8), none],
 .call 31 [] <|
 .op (.un .not) [.v 9] <|
 .ite (.v 10) (.leaf 0) <|
 .blk (
  .call 32 [.node [.cell (.v 0) 0]] <|
  .ite (.v 11) (.leaf 0) <|
  .op .len [.v 1] <|
  .op (.bin .gtr) [.v 12, .c (.int .i64 (60))] <|
  .ite (.v 13) (.leaf 1) <|
  .call 34 [.node [.cell (.v 5) 0, .cell (.v 5) 1, .cell (.v 5) 2, .cell (.v 5) 3, .cell (.v 5) 4, .cell (.v 5) 5, .cell (.v 5) 6, .cell (.v 5) 7, .cell (.v 5) 8, .cell (.v 5) 9, .cell (.v 5) 10, .cell (.v 5) 11, .cell (.v 5) 12, .cell (.v 5) 13, .cell (.v 5) 14, .cell (.v 5) 15, .cell (.v 5) 16], .node [.cell (.v 6) 0, .cell (.v 6) 1, .cell (.v 6) 2, .cell (.v 6) 3, .cell (.v 6) 4, .cell (.v 6) 5, .cell (.v 6) 6]] <|
  .op (.bin .neq) [.v 14, .c (.int .i64 (0))] <|
  .ite (.v 15) (.leaf 2) <|
  .call 35 [.node [.cell (.v 7) 0, .cell (.v 7) 1, .cell (.v 7) 2, .cell (.v 7) 3, .cell (.v 7) 4, .cell (.v 7) 5, .cell (.v 7) 6, .cell (.v 7) 7]] <|
  .op (.un .not) [.v 16] <|
  .leaf 3) [([.c (.bool true)], 0), ([.c (.bool true)], 0), ([.c (.bool true)], 0), ([.v 17], 0)] [.ite (.v 11) (.leaf 1) <|
  .op (.conv .i64) [.v 8] <|
  .op (.bin .add) [.cell (.v 7) 1, .c (.int .i64 (1))] <|
  .op (.bin .rem) [.v 12, .v 13] <|
  .op (.bin .sub) [.cell (.v 7) 1, .v 14] <|
  .call 39 [.node [.cell (.v 5) 0, .cell (.v 5) 1, .cell (.v 5) 2, .cell (.v 5) 3, .cell (.v 5) 4, .cell (.v 5) 5, .cell (.v 5) 6, .cell (.v 5) 7, .cell (.v 5) 8, .cell (.v 5) 9, .cell (.v 5) 10, .cell (.v 5) 11, .cell (.v 5) 12, .cell (.v 5) 13, .cell (.v 5) 14, .cell (.v 5) 15, .cell (.v 5) 16], .node [.cell (.v 6) 0, .cell (.v 6) 1, .cell (.v 6) 2, .cell (.v 6) 3, .cell (.v 6) 4, .cell (.v 6) 5, .cell (.v 6) 6], .node [.cell (.v 7) 0, .cell (.v 7) 1, .cell (.v 7) 2, .cell (.v 7) 3, .cell (.v 7) 4, .cell (.v 7) 5, .cell (.v 7) 6, .cell (.v 7) 7]] <|
  .call 39 [.node [.cell (.v 5) 0, .cell (.v 5) 1, .cell (.v 5) 2, .cell (.v 5) 3, .cell (.v 5) 4, .cell (.v 5) 5, .cell (.v 5) 6, .cell (.v 5) 7, .cell (.v 5) 8, .cell (.v 5) 9, .cell (.v 5) 10, .cell (.v 5) 11, .cell (.v 5) 12, .cell (.v 5) 13, .cell (.v 5) 14, .cell (.v 5) 15, .cell (.v 5) 16], .node [.cell (.v 6) 0, .cell (.v 6) 1, .cell (.v 6) 2, .cell (.v 6) 3, .cell (.v 6) 4, .cell (.v 6) 5, .cell (.v 6) 6], .node [.cell (.v 7) 0, .v 15, .cell (.v 7) 2, .cell (.v 7) 3, .cell (.v 7) 4, .cell (.v 7) 5, .cell (.v 7) 6, .cell (.v 7) 7]] <|
  .call 38 [.node [.cell (.v 0) 0], .v 1, .v 2, .v 3, .v 4] <|
  .blk (
   .op (.bin .neq) [.cell (.v 16) 1, .c (.int .i64 (0))] <|
   .ite (.v 19) (.leaf 0) <|
   .op (.bin .neq) [.cell (.v 17) 1, .c (.int .i64 (0))] <|
   .ite (.v 20) (.leaf 1) <|
   .op (.bin .lss) [.cell (.cell (.v 17) 0) 0, .cell (.cell (.v 16) 0) 0] <|
   .ite (.v 21) (.leaf 2) <|
   .op (.bin .lss) [.cell (.cell (.v 17) 0) 1, .cell (.cell (.v 16) 0) 1] <|
   .leaf 3) [([.c (.bool true)], 0), ([.c (.bool true)], 0), ([.c (.bool true)], 0), ([.v 22], 0)] [.ite (.v 19) (.leaf 2) <|
   .op (.bin .neq) [.cell (.v 18) 2, .c (.int .i64 (0))] <|
   .ite (.v 20) (.blk (
     .ite (.v 9) (.op (.bin .eql) [.cell (.v 18) 0, .c (.int .i64 (0))] <|
      .ite (.v 21) (.op (.bin .eql) [.cell (.v 18) 1, .c (.int .i64 (0))] <|
       .leaf 0) <|
      .leaf 1) <|
     .leaf 2) [([.v 22], 0), ([.c (.bool false)], 0), ([.c (.bool false)], 0)] [.leaf 3]) <|
   .blk (
    .ite (.v 9) (.op .len [.v 1] <|
     .op (.bin .leq) [.cell (.v 18) 0, .v 21] <|
     .ite (.v 22) (.op .len [.v 1] <|
      .op (.bin .leq) [.cell (.v 18) 1, .v 23] <|
      .ite (.v 24) (.op (.bin .lss) [.cell (.v 18) 1, .c (.int .i64 (0))] <|
       .ite (.v 25) (.blk (
         .op (.bin .geq) [.cell (.v 18) 1, .c (.int .i64 (0))] <|
         .ite (.v 26) (.op (.bin .leq) [.cell (.v 18) 1, .cell (.cell (.v 16) 0) 0] <|
          .leaf 0) <|
         .leaf 1) [([.v 27], 0), ([.c (.bool false)], 0)] [.op (.un .not) [.v 26] <|
         .ite (.v 27) (.leaf 0) <|
         .blk (
          .op (.bin .geq) [.cell (.v 18) 1, .c (.int .i64 (0))] <|
          .ite (.v 28) (.op (.bin .leq) [.cell (.v 18) 1, .cell (.cell (.v 17) 0) 0] <|
           .leaf 0) <|
          .leaf 1) [([.v 29], 0), ([.c (.bool false)], 0)] [.leaf 1]]) <|
       .op (.bin .geq) [.cell (.v 18) 0, .c (.int .i64 (0))] <|
       .ite (.v 26) (.op (.bin .leq) [.cell (.v 18) 0, .cell (.v 18) 1] <|
        .ite (.v 27) (.blk (
          .op (.bin .geq) [.cell (.v 18) 1, .c (.int .i64 (0))] <|
          .ite (.v 28) (.op (.bin .leq) [.cell (.v 18) 1, .cell (.cell (.v 16) 0) 0] <|
           .leaf 0) <|
          .leaf 1) [([.v 29], 0), ([.c (.bool false)], 0)] [.op (.un .not) [.v 28] <|
          .ite (.v 29) (.leaf 2) <|
          .blk (
           .op (.bin .geq) [.cell (.v 18) 1, .c (.int .i64 (0))] <|
           .ite (.v 30) (.op (.bin .leq) [.cell (.v 18) 1, .cell (.cell (.v 17) 0) 0] <|
            .leaf 0) <|
           .leaf 1) [([.v 31], 0), ([.c (.bool false)], 0)] [.leaf 3]]) <|
        .leaf 4) <|
       .leaf 5) <|
      .leaf 6) <|
     .leaf 7) <|
    .leaf 8) [([.c (.bool true)], 0), ([.v 28], 0), ([.c (.bool true)], 0), ([.v 30], 0), ([.c (.bool false)], 0), ([.c (.bool false)], 0), ([.c (.bool false)], 0), ([.c (.bool false)], 0), ([.c (.bool false)], 0)] [.leaf 4]]],
 [.c (.bool false), .v 9, .c (.bool false), .v 21, .v 21], .e⟩
def F26 : Fn := ⟨[(some 1)],
 .call 100 [.node [.cell (.v 0) 0]] <|
 .op (.un .not) [.v 1] <|
 .ite (.v 2) (.leaf 0) <|
 .leaf 1,
 [.c (.int .i64 (40)), .c (.int .i64 (0))], .e⟩
def F31 : Fn := ⟨[],
 .leaf 0,
 [.c (.bool true)], .e⟩
def F32 : Fn := ⟨[(some 1)],
 .op .len [.cell (.v 0) 0] <|
 .op (.bin .gtr) [.v 1, .c (.int .i64 (60))] <|
 .leaf 0,
 [.v 2], .e⟩
def F33 : Fn := ⟨[(some 1), none, none],
 .op .len [.cell (.v 0) 0] <|
 .loop [.c (.int .i64 (0))] (
  .op (.bin .lss) [.v 4, .v 3] <|
  .ite (.v 5) (.op (.idx 3) [.cell (.v 0) 0, .v 4] <|
   .op (.elem 0 (some 3)) [.cell (.v 0) 0, .v 4] <|
   .op (.bin .mul) [.cell (.v 7) 0, .v 1] <|
   .op (.bin .mul) [.cell (.v 7) 1, .v 2] <|
   .op (.bin .add) [.v 8, .v 9] <|
   .op (.bin .gtr) [.v 10, .cell (.v 7) 2] <|
   .ite (.v 11) (.leaf 0) <|
   .op (.bin .add) [.v 4, .c (.int .i64 (1))] <|
   .leaf 1) <|
  .leaf 2) [([], some 0), ([.v 12], none), ([], some 1)] [.leaf 0,
  .leaf 1],
 [.c (.bool false), .c (.bool true)], .e⟩
def F34 : Fn := ⟨[(some 17), (some 7)],
 .call 115 [.node [.cell (.v 0) 0, .cell (.v 0) 1, .cell (.v 0) 2, .cell (.v 0) 3, .cell (.v 0) 4, .cell (.v 0) 5, .cell (.v 0) 6, .cell (.v 0) 7, .cell (.v 0) 8, .cell (.v 0) 9, .cell (.v 0) 10, .cell (.v 0) 11, .cell (.v 0) 12, .cell (.v 0) 13, .cell (.v 0) 14, .cell (.v 0) 15, .cell (.v 0) 16]] <|
 .op (.un .not) [.v 2] <|
 .ite (.v 3) (.leaf 0) <|
 .call 116 [.node [.cell (.v 0) 0, .cell (.v 0) 1, .cell (.v 0) 2, .cell (.v 0) 3, .cell (.v 0) 4, .cell (.v 0) 5, .cell (.v 0) 6, .cell (.v 0) 7, .cell (.v 0) 8, .cell (.v 0) 9, .cell (.v 0) 10, .cell (.v 0) 11, .cell (.v 0) 12, .cell (.v 0) 13, .cell (.v 0) 14, .cell (.v 0) 15, .cell (.v 0) 16], .node [.cell (.v 1) 0, .cell (.v 1) 1, .cell (.v 1) 2, .cell (.v 1) 3, .cell (.v 1) 4, .cell (.v 1) 5, .cell (.v 1) 6]] <|
 .op (.un .not) [.v 4] <|
 .ite (.v 5) (.leaf 1) <|
 .leaf 2,
 [.c (.int .i64 (10)), .c (.int .i64 (11)), .c (.int .i64 (0))], .e⟩
def F35 : Fn := ⟨[(some 8)],
 .blk (
  .call 117 [.cell (.v 0) 0, .c (.int .i64 (0)), .c (.int .i64 (24))] <|
  .ite (.v 1) (.call 117 [.cell (.v 0) 1, .c (.int .i64 (0)), .c (.int .i64 (1000000))] <|
   .ite (.v 2) (.call 118 [.node [.cell (.v 0) 2, .cell (.v 0) 3], .c (.int .i64 (0)), .c (.int .i64 (60))] <|
    .ite (.v 3) (.call 118 [.node [.cell (.v 0) 4, .cell (.v 0) 5], .c (.int .i64 (0)), .c (.int .i64 (1000000))] <|
     .ite (.v 4) (.call 118 [.node [.cell (.v 0) 6, .cell (.v 0) 7], .c (.int .i64 (0)), .c (.int .i64 (1000000))] <|
      .leaf 0) <|
     .leaf 1) <|
    .leaf 2) <|
   .leaf 3) <|
  .leaf 4) [([.v 5], 0), ([.c (.bool false)], 0), ([.c (.bool false)], 0), ([.c (.bool false)], 0), ([.c (.bool false)], 0)] [.leaf 0],
 [.v 1], .e⟩
def F36 : Fn := ⟨[none, none],
 .leaf 0,
 [.node [.v 0, .v 1]], .node [.e, .e]⟩
def F37 : Fn := ⟨[(some 6)],
 .blk (
  .call 119 [.node [.cell (.v 0) 0, .cell (.v 0) 1], .c (.int .i64 (0)), .c (.int .i64 (60))] <|
  .ite (.v 1) (.call 119 [.node [.cell (.v 0) 2, .cell (.v 0) 3], .c (.int .i64 (-100000)), .c (.int .i64 (100000))] <|
   .ite (.v 2) (.call 119 [.node [.cell (.v 0) 4, .cell (.v 0) 5], .c (.int .i64 (-100000)), .c (.int .i64 (100000))] <|
    .leaf 0) <|
   .leaf 1) <|
  .leaf 2) [([.v 3], 0), ([.c (.bool false)], 0), ([.c (.bool false)], 0)] [.leaf 0],
 [.v 1], .e⟩
def F38 : Fn := ⟨[(some 1), none, none, none, none],
 .call 96 [.node [.cell (.v 0) 0], .v 2, .v 3, .v 4] <|
 .op (.bin .neq) [.cell (.v 5) 1, .c (.int .i64 (0))] <|
 .ite (.v 6) (.leaf 0) <|
 .op .len [.v 1] <|
 .op (.bin .gtr) [.v 7, .c (.int .i64 (60))] <|
 .ite (.v 8) (.leaf 1) <|
 .call 120 [.v 1, .fn 121 [] []] <|
 .op (.un .not) [.v 9] <|
 .ite (.v 10) (.leaf 2) <|
 .op (.bin .neq) [.cell (.v 5) 0, .c (.int .u8 (0))] <|
 .blk (
  .ite (.v 11) (.leaf 0) <|
  .leaf 1) [([.c (.int .i64 (0))], 0), ([.c (.int .i64 (-1))], 0)] [.op (.bin .eql) [.cell (.v 5) 0, .c (.int .u8 (2))] <|
  .blk (
   .ite (.v 13) (.leaf 0) <|
   .leaf 1) [([.c (.int .i64 (0))], 0), ([.c (.int .i64 (-1))], 0)] [.op .len [.v 1] <|
   .loop [.c (.int .i64 (0)), .cell (.v 0) 0, .v 12, .v 14, .cell (.v 5) 0] (
    .op (.bin .lss) [.v 16, .v 15] <|
    .ite (.v 21) (.op (.idx 6) [.v 1, .v 16] <|
     .op (.elem 0 (some 6)) [.v 1, .v 16] <|
     .shal 4 (.node [.v 17]) <|
     .call 95 [.node [.v 17], .node [.cell (.v 23) 0, .cell (.v 23) 1, .cell (.v 23) 2, .cell (.v 23) 3, .cell (.v 23) 4, .cell (.v 23) 5]] <|
     .flat (.cell (.v 24) 1) <|
     .shal 1 (.cell (.cell (.v 24) 0) 0) <|
     .op (.bin .neq) [.cell (.v 24) 1, .c (.int .i64 (0))] <|
     .ite (.v 25) (.leaf 0) <|
     .call 96 [.node [.cell (.cell (.v 24) 0) 0], .v 2, .v 3, .v 4] <|
     .flat (.cell (.v 26) 0) <|
     .flat (.cell (.v 26) 1) <|
     .op (.bin .add) [.v 16, .c (.int .i64 (1))] <|
     .blk (
      .op (.bin .lss) [.v 18, .c (.int .i64 (0))] <|
      .ite (.v 28) (.op (.bin .neq) [.cell (.v 26) 0, .c (.int .u8 (0))] <|
       .leaf 0) <|
      .leaf 1) [([.v 29], 0), ([.c (.bool false)], 0)] [.blk (
       .ite (.v 28) (.leaf 0) <|
       .leaf 1) [([.v 27], 0), ([.v 18], 0)] [.blk (
        .op (.bin .lss) [.v 19, .c (.int .i64 (0))] <|
        .ite (.v 30) (.op (.bin .eql) [.cell (.v 26) 0, .c (.int .u8 (2))] <|
         .leaf 0) <|
        .leaf 1) [([.v 31], 0), ([.c (.bool false)], 0)] [.blk (
         .ite (.v 30) (.leaf 0) <|
         .leaf 1) [([.v 27], 0), ([.v 19], 0)] [.op (.bin .add) [.v 16, .c (.int .i64 (1))] <|
         .leaf 1]]]]) <|
    .leaf 2) [([.cell (.v 24) 1], some 0), ([.v 32, .cell (.cell (.v 24) 0) 0, .v 29, .v 31, .cell (.v 26) 0], none), ([.v 18, .v 19], some 1)] [.leaf 3,
    .leaf 4]]],
 [.node [.c (.int .i64 (0)), .c (.int .i64 (0)), .cell (.v 5) 1], .node [.c (.int .i64 (0)), .c (.int .i64 (0)), .c (.int .i64 (4))], .node [.c (.int .i64 (0)), .c (.int .i64 (0)), .c (.int .i64 (42))], .node [.c (.int .i64 (0)), .c (.int .i64 (0)), .v 16], .node [.v 16, .v 17, .c (.int .i64 (0))]], .tup [.e, .e, .e]⟩
def F39 : Fn := ⟨[(some 17), (some 7), (some 8)],
 .op (.listOf 8 1 [.int .i64 (0), .int .i64 (0), .int .i64 (0), .int .i64 (0), .int .i64 (0), .int .i64 (0), .int .i64 (0), .int .i64 (0)] [0]) [.cell (.v 2) 0, .cell (.v 2) 1, .cell (.v 2) 2, .cell (.v 2) 3, .cell (.v 2) 4, .cell (.v 2) 5, .cell (.v 2) 6, .cell (.v 2) 7] <|
 .call 123 [.node [.cell (.v 0) 0, .cell (.v 0) 1, .cell (.v 0) 2, .cell (.v 0) 3, .cell (.v 0) 4, .cell (.v 0) 5, .cell (.v 0) 6, .cell (.v 0) 7, .cell (.v 0) 8, .cell (.v 0) 9, .cell (.v 0) 10, .cell (.v 0) 11, .cell (.v 0) 12, .cell (.v 0) 13, .cell (.v 0) 14, .cell (.v 0) 15, .cell (.v 0) 16], .node [.cell (.v 1) 0, .cell (.v 1) 1, .cell (.v 1) 2, .cell (.v 1) 3, .cell (.v 1) 4, .cell (.v 1) 5, .cell (.v 1) 6], .v 3] <|
 .flat (.v 4) <|
 .op (.bin .neq) [.v 4, .c (.int .i64 (0))] <|
 .ite (.v 5) (.leaf 0) <|
 .call 124 [.c (.int .i64 (60))] <|
 .call 125 [.node [.cell (.v 0) 0, .cell (.v 0) 1, .cell (.v 0) 2, .cell (.v 0) 3, .cell (.v 0) 4, .cell (.v 0) 5, .cell (.v 0) 6, .cell (.v 0) 7, .cell (.v 0) 8, .cell (.v 0) 9, .cell (.v 0) 10, .cell (.v 0) 11, .cell (.v 0) 12, .cell (.v 0) 13, .cell (.v 0) 14, .cell (.v 0) 15, .cell (.v 0) 16], .node [.cell (.v 1) 0, .cell (.v 1) 1, .cell (.v 1) 2, .cell (.v 1) 3, .cell (.v 1) 4, .cell (.v 1) 5, .cell (.v 1) 6]] <|
 .op (.listOf 8 1 [.int .i64 (0), .int .i64 (0), .int .i64 (0), .int .i64 (0), .int .i64 (0), .int .i64 (0), .int .i64 (0), .int .i64 (0)] [0]) [.cell (.v 2) 0, .cell (.v 2) 1, .cell (.v 2) 2, .cell (.v 2) 3, .cell (.v 2) 4, .cell (.v 2) 5, .cell (.v 2) 6, .cell (.v 2) 7] <|
 .call 127 [.v 8, .c (.int .i64 (60))] <|
 .shal 1 (.v 9) <|
 .blk (
  .op .len [.v 9] <|
  .loop [.c (.int .i64 (0)), .cell (.v 7) 0, .cell (.v 7) 1, .cell (.v 7) 2, .cell (.v 7) 3, .cell (.v 7) 4, .cell (.v 7) 5, .cell (.v 7) 6, .cell (.v 7) 7, .cell (.v 7) 8, .cell (.v 7) 9, .cell (.v 7) 10, .cell (.v 7) 11, .cell (.v 7) 12, .cell (.v 7) 13, .cell (.v 7) 14, .cell (.v 7) 15, .cell (.v 7) 16, .cell (.v 7) 17, .cell (.v 7) 18, .cell (.v 7) 19, .cell (.v 7) 20, .cell (.v 7) 21, .cell (.v 7) 22, .cell (.v 7) 23, .cell (.v 6) 0, .cell (.v 6) 1] (
   .op (.bin .lss) [.v 11, .v 10] <|
   .ite (.v 38) (.op (.idx 8) [.v 9, .v 11] <|
    .op (.elem 0 (some 8)) [.v 9, .v 11] <|
    .call 176 [.node [.v 12, .v 13, .v 14, .v 15, .v 16, .v 17, .v 18, .v 19, .v 20, .v 21, .v 22, .v 23, .v 24, .v 25, .v 26, .v 27, .v 28, .v 29, .v 30, .v 31, .v 32, .v 33, .v 34, .v 35], .node [.cell (.v 40) 0, .cell (.v 40) 1, .cell (.v 40) 2, .cell (.v 40) 3, .cell (.v 40) 4, .cell (.v 40) 5, .cell (.v 40) 6, .cell (.v 40) 7]] <|
    .op (.bin .neq) [.cell (.v 41) 1, .c (.int .u8 (0))] <|
    .blk (
     .ite (.v 42) (.op (.mx false) [.v 36, .v 11] <|
      .leaf 0) <|
     .leaf 1) [([.v 43], 0), ([.v 36], 0)] [.op (.bin .eql) [.cell (.v 41) 1, .c (.int .u8 (2))] <|
     .blk (
      .ite (.v 44) (.leaf 0) <|
      .leaf 1) [([.v 11], 0), ([.v 37], 0)] [.op (.bin .eql) [.cell (.v 41) 1, .c (.int .u8 (2))] <|
      .ite (.v 46) (.leaf 0) <|
      .op (.bin .add) [.v 11, .c (.int .i64 (1))] <|
      .leaf 1]]) <|
   .leaf 2) [([.v 43, .v 45], some 0), ([.v 47, .cell (.cell (.v 41) 0) 0, .cell (.cell (.v 41) 0) 1, .cell (.cell (.v 41) 0) 2, .cell (.cell (.v 41) 0) 3, .cell (.cell (.v 41) 0) 4, .cell (.cell (.v 41) 0) 5, .cell (.cell (.v 41) 0) 6, .cell (.cell (.v 41) 0) 7, .cell (.cell (.v 41) 0) 8, .cell (.cell (.v 41) 0) 9, .cell (.cell (.v 41) 0) 10, .cell (.cell (.v 41) 0) 11, .cell (.cell (.v 41) 0) 12, .cell (.cell (.v 41) 0) 13, .cell (.cell (.v 41) 0) 14, .cell (.cell (.v 41) 0) 15, .cell (.cell (.v 41) 0) 16, .cell (.cell (.v 41) 0) 17, .cell (.cell (.v 41) 0) 18, .cell (.cell (.v 41) 0) 19, .cell (.cell (.v 41) 0) 20, .cell (.cell (.v 41) 0) 21, .cell (.cell (.v 41) 0) 22, .cell (.cell (.v 41) 0) 23, .v 43, .v 45], none), ([.v 36, .v 37], some 1)] [.leaf 0,
   .leaf 1]) [([.v 11, .v 12], 0), ([.v 11, .v 12], 0)] [.leaf 1],
 [.node [.node [.c (.int .i64 (0)), .c (.int .i64 (0))], .v 4], .node [.node [.v 10, .v 11], .c (.int .i64 (0))]], .tup [.node [.e, .e], .e]⟩
def F40 : Fn := ⟨[(some 2), none],
 .op (.conv .i64) [.v 1] <|
 .op (.bin .sub) [.cell (.v 0) 1, .cell (.v 0) 0] <|
 .op (.bin .add) [.v 3, .c (.int .i64 (1))] <|
 .op (.bin .rem) [.v 2, .v 4] <|
 .op (.bin .add) [.cell (.v 0) 0, .v 5] <|
 .leaf 0,
 [.v 6], .e⟩
def F41 : Fn := ⟨[none, none],
 .op .len [.v 0] <|
 .op (.bin .eql) [.v 2, .c (.int .i64 (0))] <|
 .ite (.v 3) (.leaf 0) <|
 .op .len [.v 0] <|
 .op (.bin .rem) [.v 1, .v 4] <|
 .op (.idx 1) [.v 0, .v 5] <|
 .op (.elem 0 none) [.v 0, .v 5] <|
 .leaf 1,
 [.c (.int .u32 (0)), .v 7], .e⟩
def F95 : Fn := ⟨[(some 1), (some 6)],
 .call 101 [.node [.cell (.v 0) 0]] <|
 .op (.bin .neq) [.v 2, .c (.int .i64 (0))] <|
 .ite (.v 3) (.leaf 0) <|
 .call 121 [.node [.cell (.v 1) 0, .cell (.v 1) 1, .cell (.v 1) 2, .cell (.v 1) 3, .cell (.v 1) 4, .cell (.v 1) 5]] <|
 .op (.un .not) [.v 4] <|
 .ite (.v 5) (.leaf 1) <|
 .call 147 [.cell (.v 0) 0, .node [.cell (.v 1) 0, .cell (.v 1) 1, .cell (.v 1) 2, .cell (.v 1) 3, .cell (.v 1) 4, .cell (.v 1) 5]] <|
 .call 148 [.v 6, .fn 149 [] []] <|
 .flat (.v 7) <|
 .op (.un .not) [.v 7] <|
 .ite (.v 8) (.leaf 2) <|
 .call 108 [.cell (.v 0) 0] <|
 .op (.un .not) [.v 9] <|
 .ite (.v 10) (.leaf 3) <|
 .leaf 4,
 [.node [.node [.c (.list [])], .v 2], .node [.node [.c (.list [])], .c (.int .i64 (42))], .node [.node [.c (.list [])], .c (.int .i64 (9))], .node [.node [.c (.list [])], .c (.int .i64 (43))], .node [.node [.v 6], .c (.int .i64 (0))]], .tup [.node [.own 3], .e]⟩
def F96 : Fn := ⟨[(some 1), none, none, none],
 .call 101 [.node [.cell (.v 0) 0]] <|
 .op (.bin .neq) [.v 4, .c (.int .i64 (0))] <|
 .ite (.v 5) (.leaf 0) <|
 .call 103 [.node [.c (.int .u8 (3)), .v 1, .v 2, .c (.int .i64 (0)), .c (.int .i64 (0)), .c (.int .i64 (0)), .c (.int .i64 (0)), .c (.int .i64 (0)), .c (.int .i64 (0)), .v 3]] <|
 .op (.un .not) [.v 6] <|
 .ite (.v 7) (.leaf 1) <|
 .call 108 [.cell (.v 0) 0] <|
 .op (.un .not) [.v 8] <|
 .ite (.v 9) (.leaf 2) <|
 .call 107 [.node [.c (.int .u8 (3)), .v 1, .v 2, .c (.int .i64 (0)), .c (.int .i64 (0)), .c (.int .i64 (0)), .c (.int .i64 (0)), .c (.int .i64 (0)), .c (.int .i64 (0)), .v 3]] <|
 .call 150 [.cell (.v 0) 0, .v 10] <|
 .flat (.v 11) <|
 .leaf 3,
 [.node [.c (.int .u8 (0)), .v 4], .node [.c (.int .u8 (0)), .c (.int .i64 (2))], .node [.c (.int .u8 (0)), .c (.int .i64 (43))], .node [.v 11, .c (.int .i64 (0))]], .tup [.e, .e]⟩
def F100 : Fn := ⟨[(some 1)],
 .op .len [.cell (.v 0) 0] <|
 .call 151 [.v 1, .c (.int .i64 (4)), .c (.int .i64 (40))] <|
 .op (.un .not) [.v 2] <|
 .ite (.v 3) (.leaf 0) <|
 .loop [.c (.int .i64 (0))] (
  .op .len [.cell (.v 0) 0] <|
  .op (.bin .lss) [.v 4, .v 5] <|
  .ite (.v 6) (.op (.idx 3) [.cell (.v 0) 0, .v 4] <|
   .op (.elem 0 (some 3)) [.cell (.v 0) 0, .v 4] <|
   .blk (
    .call 151 [.cell (.v 8) 0, .c (.int .i64 (-1000)), .c (.int .i64 (1000))] <|
    .op (.un .not) [.v 9] <|
    .ite (.v 10) (.leaf 0) <|
    .call 151 [.cell (.v 8) 1, .c (.int .i64 (-1000)), .c (.int .i64 (1000))] <|
    .op (.un .not) [.v 11] <|
    .ite (.v 12) (.leaf 1) <|
    .op (.bin .eql) [.cell (.v 8) 0, .c (.int .i64 (0))] <|
    .ite (.v 13) (.op (.bin .eql) [.cell (.v 8) 1, .c (.int .i64 (0))] <|
     .ite (.v 14) (.leaf 2) <|
     .call 151 [.cell (.v 8) 2, .c (.int .i64 (-100000000000)), .c (.int .i64 (100000000000))] <|
     .op (.un .not) [.v 15] <|
     .leaf 3) <|
    .call 151 [.cell (.v 8) 2, .c (.int .i64 (-100000000000)), .c (.int .i64 (100000000000))] <|
    .op (.un .not) [.v 14] <|
    .leaf 4) [([.c (.bool true)], 0), ([.c (.bool true)], 0), ([.c (.bool true)], 0), ([.v 16], 0), ([.v 15], 0)] [.ite (.v 9) (.leaf 0) <|
    .op (.bin .add) [.v 4, .c (.int .i64 (1))] <|
    .leaf 1]) <|
  .leaf 2) [([], some 0), ([.v 10], none), ([], some 1)] [.leaf 1,
  .blk (
   .op (.idx 3) [.cell (.v 0) 0, .c (.int .i64 (0))] <|
   .op (.elem 0 none) [.cell (.v 0) 0, .c (.int .i64 (0))] <|
   .op (.bin .eql) [.v 5, .c (.int .i64 (1))] <|
   .ite (.v 6) (.op (.idx 3) [.cell (.v 0) 0, .c (.int .i64 (0))] <|
    .op (.elem 1 none) [.cell (.v 0) 0, .c (.int .i64 (0))] <|
    .op (.bin .eql) [.v 8, .c (.int .i64 (0))] <|
    .ite (.v 9) (.op (.idx 3) [.cell (.v 0) 0, .c (.int .i64 (1))] <|
     .op (.elem 0 none) [.cell (.v 0) 0, .c (.int .i64 (1))] <|
     .op (.bin .eql) [.v 11, .c (.int .i64 (-1))] <|
     .ite (.v 12) (.op (.idx 3) [.cell (.v 0) 0, .c (.int .i64 (1))] <|
      .op (.elem 1 none) [.cell (.v 0) 0, .c (.int .i64 (1))] <|
      .op (.bin .eql) [.v 14, .c (.int .i64 (0))] <|
      .ite (.v 15) (.op (.idx 3) [.cell (.v 0) 0, .c (.int .i64 (2))] <|
       .op (.elem 0 none) [.cell (.v 0) 0, .c (.int .i64 (2))] <|
       .op (.bin .eql) [.v 17, .c (.int .i64 (0))] <|
       .ite (.v 18) (.op (.idx 3) [.cell (.v 0) 0, .c (.int .i64 (2))] <|
        .op (.elem 1 none) [.cell (.v 0) 0, .c (.int .i64 (2))] <|
        .op (.bin .eql) [.v 20, .c (.int .i64 (1))] <|
        .ite (.v 21) (.op (.idx 3) [.cell (.v 0) 0, .c (.int .i64 (3))] <|
         .op (.elem 0 none) [.cell (.v 0) 0, .c (.int .i64 (3))] <|
         .op (.bin .eql) [.v 23, .c (.int .i64 (0))] <|
         .ite (.v 24) (.op (.idx 3) [.cell (.v 0) 0, .c (.int .i64 (3))] <|
          .op (.elem 1 none) [.cell (.v 0) 0, .c (.int .i64 (3))] <|
          .op (.bin .eql) [.v 26, .c (.int .i64 (-1))] <|
          .leaf 0) <|
         .leaf 1) <|
        .leaf 2) <|
       .leaf 3) <|
      .leaf 4) <|
     .leaf 5) <|
    .leaf 6) <|
   .leaf 7) [([.v 27], 0), ([.c (.bool false)], 0), ([.c (.bool false)], 0), ([.c (.bool false)], 0), ([.c (.bool false)], 0), ([.c (.bool false)], 0), ([.c (.bool false)], 0), ([.c (.bool false)], 0)] [.leaf 2]],
 [.c (.bool false), .c (.bool false), .v 4], .e⟩
def F101 : Fn := ⟨[(some 1)],
 .call 152 [.node [.cell (.v 0) 0]] <|
 .op (.un .not) [.v 1] <|
 .ite (.v 2) (.leaf 0) <|
 .leaf 1,
 [.c (.int .i64 (40)), .c (.int .i64 (0))], .e⟩
def F103 : Fn := ⟨[(some 10)],
 .op (.bin .eql) [.cell (.v 0) 0, .c (.int .u8 (1))] <|
 .blk (
  .ite (.v 1) (.blk (
    .call 153 [.cell (.v 0) 1, .cell (.v 0) 2] <|
    .ite (.v 2) (.call 154 [.node [.cell (.v 0) 3, .cell (.v 0) 4]] <|
     .ite (.v 3) (.call 154 [.node [.cell (.v 0) 5, .cell (.v 0) 6]] <|
      .ite (.v 4) (.call 155 [.node [.cell (.v 0) 3, .cell (.v 0) 4], .node [.cell (.v 0) 5, .cell (.v 0) 6]] <|
       .leaf 0) <|
      .leaf 1) <|
     .leaf 2) <|
    .leaf 3) [([.v 5], 0), ([.c (.bool false)], 0), ([.c (.bool false)], 0), ([.c (.bool false)], 0)] [.leaf 0]) <|
  .op (.bin .eql) [.cell (.v 0) 0, .c (.int .u8 (2))] <|
  .blk (
   .ite (.v 2) (.call 145 [.node [.cell (.v 0) 7, .cell (.v 0) 8], .c (.int .i64 (-10000000)), .c (.int .i64 (10000000))] <|
    .leaf 0) <|
   .op (.bin .eql) [.cell (.v 0) 0, .c (.int .u8 (3))] <|
   .ite (.v 3) (.blk (
     .call 153 [.cell (.v 0) 1, .cell (.v 0) 2] <|
     .ite (.v 4) (.call 156 [.cell (.v 0) 9, .c (.int .i64 (0)), .c (.int .i64 (10000000))] <|
      .leaf 0) <|
     .leaf 1) [([.v 5], 0), ([.c (.bool false)], 0)] [.leaf 1]) <|
   .leaf 2) [([.v 3], 0), ([.v 4], 0), ([], 1)] [.leaf 1,
   .leaf 2]) [([.v 2], 0), ([.v 3], 0), ([], 1)] [.leaf 0,
  .leaf 1],
 [.v 2, .c (.bool false)], .e⟩
def F106 : Fn := ⟨[none],
 .op .len [.v 0] <|
 .loop [.c (.int .i64 (0)), .c (.int .i64 (0))] (
  .op (.bin .lss) [.v 3, .v 1] <|
  .ite (.v 4) (.op (.idx 1) [.v 0, .v 3] <|
   .op (.elem 0 none) [.v 0, .v 3] <|
   .op .len [.v 6] <|
   .op (.bin .add) [.v 2, .v 7] <|
   .op (.bin .lss) [.v 8, .c (.int .i64 (0))] <|
   .ite (.v 9) (.fail) <|
   .op (.bin .add) [.v 3, .c (.int .i64 (1))] <|
   .leaf 0) <|
  .leaf 1) [([.v 8, .v 10], none), ([.v 2], some 0)] [.op (.bin .lss) [.v 2, .c (.int .i64 (0))] <|
  .ite (.v 3) (.fail) <|
  .op (.bin .sub) [.v 2, .c (.int .i64 (0))] <|
  .op (.bin .gtr) [.v 4, .c (.int .i64 (0))] <|
  .blk (
   .ite (.v 5) (.op (.appZ 3 24 [.int .i64 (0), .int .i64 (0), .int .i64 (0)]) [.v 4] <|
    .op (.sl 3 false true) [.v 6, .c (.int .i64 (0))] <|
    .leaf 0) <|
   .leaf 1) [([.v 7], 0), ([.c (.list [])], 0)] [.op .len [.v 0] <|
   .loop [.c (.int .i64 (0)), .v 6] (
    .op (.bin .lss) [.v 8, .v 7] <|
    .ite (.v 10) (.op (.idx 1) [.v 0, .v 8] <|
     .op (.elem 0 none) [.v 0, .v 8] <|
     .op (.app 3 24) [.v 9, .v 12] <|
     .op (.bin .add) [.v 8, .c (.int .i64 (1))] <|
     .leaf 0) <|
    .leaf 1) [([.v 14, .v 13], none), ([.v 9], some 0)] [.leaf 0]]],
 [.v 8], .own 3⟩
def F107 : Fn := ⟨[(some 10)],
 .blk (
  .op (.isK 0) [.cell (.v 0) 0] <|
  .ite (.v 1) (.fail) <|
  .op (.isK 1) [.cell (.v 0) 0] <|
  .ite (.v 2) (.call 162 [.node [.cell (.v 0) 0, .cell (.v 0) 1, .cell (.v 0) 2, .cell (.v 0) 3, .cell (.v 0) 4, .cell (.v 0) 5, .cell (.v 0) 6, .cell (.v 0) 7, .cell (.v 0) 8, .cell (.v 0) 9]] <|
   .leaf 0) <|
  .op (.isK 2) [.cell (.v 0) 0] <|
  .ite (.v 3) (.call 163 [.node [.cell (.v 0) 0, .cell (.v 0) 1, .cell (.v 0) 2, .cell (.v 0) 3, .cell (.v 0) 4, .cell (.v 0) 5, .cell (.v 0) 6, .cell (.v 0) 7, .cell (.v 0) 8, .cell (.v 0) 9]] <|
   .leaf 1) <|
  .op (.isK 3) [.cell (.v 0) 0] <|
  .ite (.v 4) (.call 164 [.node [.cell (.v 0) 0, .cell (.v 0) 1, .cell (.v 0) 2, .cell (.v 0) 3, .cell (.v 0) 4, .cell (.v 0) 5, .cell (.v 0) 6, .cell (.v 0) 7, .cell (.v 0) 8, .cell (.v 0) 9]] <|
   .leaf 2) <|
  .fail) [([.v 3], 0), ([.v 4], 0), ([.v 5], 0)] [.leaf 0],
 [.v 1], .own 3⟩
def F108 : Fn := ⟨[none],
 .op .len [.v 0] <|
 .loop [.c (.int .i64 (0))] (
  .op (.bin .lss) [.v 2, .v 1] <|
  .ite (.v 3) (.op (.idx 3) [.v 0, .v 2] <|
   .op (.elem 0 (some 3)) [.v 0, .v 2] <|
   .op (.sl 3 false true) [.v 0, .v 2] <|
   .op .len [.v 6] <|
   .loop [.c (.int .i64 (0))] (
    .op (.bin .lss) [.v 8, .v 7] <|
    .ite (.v 9) (.op (.idx 3) [.v 6, .v 8] <|
     .op (.elem 0 (some 3)) [.v 6, .v 8] <|
     .call 166 [.node [.cell (.v 5) 0, .cell (.v 5) 1, .cell (.v 5) 2], .node [.cell (.v 11) 0, .cell (.v 11) 1, .cell (.v 11) 2]] <|
     .blk (
      .ite (.cell (.v 12) 1) (.flat (.node [.cell (.cell (.v 12) 0) 0, .cell (.cell (.v 12) 0) 1, .cell (.cell (.v 12) 0) 2]) <|
       .call 148 [.v 0, .fn 167 [.node [.cell (.cell (.v 12) 0) 0, .cell (.cell (.v 12) 0) 1, .cell (.cell (.v 12) 0) 2]] []] <|
       .ite (.v 13) (.leaf 0) <|
       .leaf 1) <|
      .leaf 2) [([], 0), ([], 1), ([], 1)] [.leaf 0,
      .op (.bin .add) [.v 8, .c (.int .i64 (1))] <|
      .leaf 1]) <|
    .leaf 2) [([], some 0), ([.v 13], none), ([], some 1)] [.leaf 0,
    .op (.bin .add) [.v 2, .c (.int .i64 (1))] <|
    .leaf 1]) <|
  .leaf 2) [([], some 0), ([.v 8], none), ([], some 1)] [.leaf 0,
  .leaf 1],
 [.c (.bool true), .c (.bool false)], .e⟩
def F112 : Fn := ⟨[none],
 .call 168 [.v 0] <|
 .call 169 [.v 0] <|
 .leaf 0,
 [.node [.v 1, .v 2]], .node [.e, .e]⟩
def F115 : Fn := ⟨[(some 17)],
 .blk (
  .call 117 [.cell (.v 0) 0, .c (.int .i64 (1)), .c (.int .i64 (1000000))] <|
  .op (.un .not) [.v 1] <|
  .ite (.v 2) (.leaf 0) <|
  .call 117 [.cell (.v 0) 1, .c (.int .i64 (1)), .c (.int .i64 (1000000))] <|
  .op (.un .not) [.v 3] <|
  .ite (.v 4) (.leaf 1) <|
  .call 117 [.cell (.v 0) 14, .c (.int .i64 (0)), .c (.int .i64 (1000))] <|
  .op (.un .not) [.v 5] <|
  .ite (.v 6) (.leaf 2) <|
  .call 118 [.node [.cell (.v 0) 15, .cell (.v 0) 16], .c (.int .i64 (0)), .c (.int .i64 (1000000))] <|
  .op (.un .not) [.v 7] <|
  .leaf 3) [([.c (.bool true)], 0), ([.c (.bool true)], 0), ([.c (.bool true)], 0), ([.v 8], 0)] [.ite (.v 1) (.leaf 0) <|
  .blk (
   .call 118 [.node [.cell (.v 0) 2, .cell (.v 0) 3], .c (.int .i64 (0)), .c (.int .i64 (100000))] <|
   .ite (.v 2) (.call 118 [.node [.cell (.v 0) 4, .cell (.v 0) 5], .c (.int .i64 (0)), .c (.int .i64 (100000))] <|
    .ite (.v 3) (.call 118 [.node [.cell (.v 0) 6, .cell (.v 0) 7], .c (.int .i64 (0)), .c (.int .i64 (100000))] <|
     .ite (.v 4) (.call 118 [.node [.cell (.v 0) 8, .cell (.v 0) 9], .c (.int .i64 (0)), .c (.int .i64 (100000))] <|
      .ite (.v 5) (.call 118 [.node [.cell (.v 0) 10, .cell (.v 0) 11], .c (.int .i64 (0)), .c (.int .i64 (100000))] <|
       .ite (.v 6) (.call 118 [.node [.cell (.v 0) 12, .cell (.v 0) 13], .c (.int .i64 (0)), .c (.int .i64 (100000))] <|
        .leaf 0) <|
       .leaf 1) <|
      .leaf 2) <|
     .leaf 3) <|
    .leaf 4) <|
   .leaf 5) [([.v 7], 0), ([.c (.bool false)], 0), ([.c (.bool false)], 0), ([.c (.bool false)], 0), ([.c (.bool false)], 0), ([.c (.bool false)], 0)] [.leaf 1]],
 [.c (.bool false), .v 2], .e⟩
def F116 : Fn := ⟨[(some 17), (some 7)],
 .blk (
  .call 118 [.node [.cell (.v 1) 0, .cell (.v 1) 1], .c (.int .i64 (0)), .cell (.v 0) 0] <|
  .ite (.v 2) (.call 118 [.node [.cell (.v 1) 2, .cell (.v 1) 3], .c (.int .i64 (0)), .cell (.v 0) 1] <|
   .ite (.v 3) (.call 118 [.node [.cell (.v 1) 4, .cell (.v 1) 5], .c (.int .i64 (0)), .c (.int .i64 (1000))] <|
    .leaf 0) <|
   .leaf 1) <|
  .leaf 2) [([.v 4], 0), ([.c (.bool false)], 0), ([.c (.bool false)], 0)] [.leaf 0],
 [.v 2], .e⟩
def F117 : Fn := ⟨[none, none, none],
 .blk (
  .op (.bin .geq) [.v 0, .v 1] <|
  .ite (.v 3) (.op (.bin .leq) [.v 0, .v 2] <|
   .leaf 0) <|
  .leaf 1) [([.v 4], 0), ([.c (.bool false)], 0)] [.leaf 0],
 [.v 3], .e⟩
def F118 : Fn := ⟨[(some 2), none, none],
 .blk (
  .call 117 [.cell (.v 0) 0, .v 1, .cell (.v 0) 1] <|
  .ite (.v 3) (.op (.bin .leq) [.cell (.v 0) 1, .v 2] <|
   .leaf 0) <|
  .leaf 1) [([.v 4], 0), ([.c (.bool false)], 0)] [.leaf 0],
 [.v 3], .e⟩
def F119 : Fn := ⟨[(some 2), none, none],
 .blk (
  .call 151 [.cell (.v 0) 0, .v 1, .cell (.v 0) 1] <|
  .ite (.v 3) (.op (.bin .leq) [.cell (.v 0) 1, .v 2] <|
   .leaf 0) <|
  .leaf 1) [([.v 4], 0), ([.c (.bool false)], 0)] [.leaf 0],
 [.v 3], .e⟩
def F120 : Fn := ⟨[none, none],
 .op .len [.v 0] <|
 .loop [.c (.int .i64 (0))] (
  .op (.bin .lss) [.v 3, .v 2] <|
  .ite (.v 4) (.op (.idx 6) [.v 0, .v 3] <|
   .op (.elem 0 (some 6)) [.v 0, .v 3] <|
   .callD (.v 1) [.node [.cell (.v 6) 0, .cell (.v 6) 1, .cell (.v 6) 2, .cell (.v 6) 3, .cell (.v 6) 4, .cell (.v 6) 5]] <|
   .flat (.node [.v 7]) <|
   .op (.un .not) [.v 7] <|
   .ite (.v 8) (.leaf 0) <|
   .op (.bin .add) [.v 3, .c (.int .i64 (1))] <|
   .leaf 1) <|
  .leaf 2) [([], some 0), ([.v 9], none), ([], some 1)] [.leaf 0,
  .leaf 1],
 [.c (.bool false), .c (.bool true)], .e⟩
def F121 : Fn := ⟨[(some 6)],
 .blk (
  .call 145 [.node [.cell (.v 0) 0, .cell (.v 0) 1], .c (.int .i64 (0)), .c (.int .i64 (60))] <|
  .ite (.v 1) (.call 145 [.node [.cell (.v 0) 2, .cell (.v 0) 3], .c (.int .i64 (-100000)), .c (.int .i64 (100000))] <|
   .ite (.v 2) (.call 145 [.node [.cell (.v 0) 4, .cell (.v 0) 5], .c (.int .i64 (-100000)), .c (.int .i64 (100000))] <|
    .leaf 0) <|
   .leaf 1) <|
  .leaf 2) [([.v 3], 0), ([.c (.bool false)], 0), ([.c (.bool false)], 0)] [.leaf 0],
 [.v 1], .e⟩
def F123 : Fn := ⟨[(some 17), (some 7), none],
 .call 173 [.node [.cell (.v 0) 0, .cell (.v 0) 1, .cell (.v 0) 2, .cell (.v 0) 3, .cell (.v 0) 4, .cell (.v 0) 5, .cell (.v 0) 6, .cell (.v 0) 7, .cell (.v 0) 8, .cell (.v 0) 9, .cell (.v 0) 10, .cell (.v 0) 11, .cell (.v 0) 12, .cell (.v 0) 13, .cell (.v 0) 14, .cell (.v 0) 15, .cell (.v 0) 16], .node [.cell (.v 1) 0, .cell (.v 1) 1, .cell (.v 1) 2, .cell (.v 1) 3, .cell (.v 1) 4, .cell (.v 1) 5, .cell (.v 1) 6]] <|
 .op (.bin .neq) [.v 3, .c (.int .i64 (0))] <|
 .ite (.v 4) (.leaf 0) <|
 .op .len [.v 2] <|
 .op (.bin .gtr) [.v 5, .c (.int .i64 (60))] <|
 .ite (.v 6) (.leaf 1) <|
 .call 174 [.v 2] <|
 .leaf 2,
 [.v 3, .c (.int .i64 (4)), .v 7], .e⟩
def F124 : Fn := ⟨[none],
 .leaf 0,
 [.node [.v 0, .v 0]], .node [.e, .e]⟩
def F125 : Fn := ⟨[(some 17), (some 7)],
 .leaf 0,
 [.node [.cell (.v 0) 0, .cell (.v 0) 1, .cell (.v 0) 2, .cell (.v 0) 3, .cell (.v 0) 4, .cell (.v 0) 5, .cell (.v 0) 6, .cell (.v 0) 7, .cell (.v 0) 8, .cell (.v 0) 9, .cell (.v 0) 10, .cell (.v 0) 11, .cell (.v 0) 12, .cell (.v 0) 13, .cell (.v 0) 14, .cell (.v 0) 15, .cell (.v 0) 16, .cell (.v 1) 0, .cell (.v 1) 1, .cell (.v 1) 2, .cell (.v 1) 3, .cell (.v 1) 4, .cell (.v 1) 5, .cell (.v 1) 6]], .node [.e, .e, .e, .e, .e, .e, .e, .e, .e, .e, .e, .e, .e, .e, .e, .e, .e, .e, .e, .e, .e, .e, .e, .e]⟩
def F127 : Fn := ⟨[none, none],
 .op .len [.v 0] <|
 .op (.bin .eql) [.v 2, .c (.int .i64 (1))] <|
 .ite (.v 3) (.op (.bin .eql) [.v 1, .c (.int .i64 (60))] <|
  .ite (.v 4) (.op (.idx 8) [.v 0, .c (.int .i64 (0))] <|
   .op (.elem 0 (some 8)) [.v 0, .c (.int .i64 (0))] <|
   .op (.bin .eql) [.cell (.v 6) 0, .c (.int .i64 (0))] <|
   .op (.bin .eql) [.cell (.v 6) 1, .c (.int .i64 (0))] <|
   .op (.bin .eql) [.cell (.v 6) 2, .c (.int .i64 (0))] <|
   .op (.bin .eql) [.cell (.v 6) 3, .c (.int .i64 (0))] <|
   .op (.bin .eql) [.cell (.v 6) 4, .c (.int .i64 (0))] <|
   .op (.bin .eql) [.cell (.v 6) 5, .c (.int .i64 (0))] <|
   .op (.bin .eql) [.cell (.v 6) 6, .c (.int .i64 (0))] <|
   .op (.bin .eql) [.cell (.v 6) 7, .c (.int .i64 (0))] <|
   .op (.listOf 8 60 [.int .i64 (0), .int .i64 (0), .int .i64 (0), .int .i64 (0), .int .i64 (0), .int .i64 (0), .int .i64 (0), .int .i64 (0)] [0, 1, 2, 3, 4, 5, 6, 7, 8, 9, 10, 11, 12, 13, 14, 15, 16, 17, 18, 19, 20, 21, 22, 23, 24, 25, 26, 27, 28, 29, 30, 31, 32, 33, 34, 35, 36, 37, 38, 39, 40, 41, 42, 43, 44, 45, 46, 47, 48, 49, 50, 51, 52, 53, 54, 55, 56, 57, 58, 59]) [.cell (.v 6) 0, .cell (.v 6) 1, .cell (.v 6) 2, .cell (.v 6) 3, .cell (.v 6) 4, .cell (.v 6) 5, .cell (.v 6) 6, .cell (.v 6) 7, .cell (.v 6) 0, .cell (.v 6) 1, .cell (.v 6) 2, .cell (.v 6) 3, .cell (.v 6) 4, .cell (.v 6) 5, .cell (.v 6) 6, .cell (.v 6) 7, .cell (.v 6) 0, .cell (.v 6) 1, .cell (.v 6) 2, .cell (.v 6) 3, .cell (.v 6) 4, .cell (.v 6) 5, .cell (.v 6) 6, .cell (.v 6) 7, .cell (.v 6) 0, .cell (.v 6) 1, .cell (.v 6) 2, .cell (.v 6) 3, .cell (.v 6) 4, .cell (.v 6) 5, .cell (.v 6) 6, .cell (.v 6) 7, .cell (.v 6) 0, .cell (.v 6) 1, .cell (.v 6) 2, .cell (.v 6) 3, .cell (.v 6) 4, .cell (.v 6) 5, .cell (.v 6) 6, .cell (.v 6) 7, .cell (.v 6) 0, .cell (.v 6) 1, .cell (.v 6) 2, .cell (.v 6) 3, .cell (.v 6) 4, .cell (.v 6) 5, .cell (.v 6) 6, .cell (.v 6) 7, .cell (.v 6) 0, .cell (.v 6) 1, .cell (.v 6) 2, .cell (.v 6) 3, .cell (.v 6) 4, .cell (.v 6) 5, .cell (.v 6) 6, .cell (.v 6) 7, .cell (.v 6) 0, .cell (.v 6) 1, .cell (.v 6) 2, .cell (.v 6) 3, .cell (.v 6) 4, .cell (.v 6) 5, .cell (.v 6) 6, .cell (.v 6) 7, .cell (.v 6) 0, .cell (.v 6) 1, .cell (.v 6) 2, .cell (.v 6) 3, .cell (.v 6) 4, .cell (.v 6) 5, .cell (.v 6) 6, .cell (.v 6) 7, .cell (.v 6) 0, .cell (.v 6) 1, .cell (.v 6) 2, .cell (.v 6) 3, .cell (.v 6) 4, .cell (.v 6) 5, .cell (.v 6) 6, .cell (.v 6) 7, .cell (.v 6) 0, .cell (.v 6) 1, .cell (.v 6) 2, .cell (.v 6) 3, .cell (.v 6) 4, .cell (.v 6) 5, .cell (.v 6) 6, .cell (.v 6) 7, .cell (.v 6) 0, .cell (.v 6) 1, .cell (.v 6) 2, .cell (.v 6) 3, .cell (.v 6) 4, .cell (.v 6) 5, .cell (.v 6) 6, .cell (.v 6) 7, .cell (.v 6) 0, .cell (.v 6) 1, .cell (.v 6) 2, .cell (.v 6) 3, .cell (.v 6) 4, .cell (.v 6) 5, .cell (.v 6) 6, .cell (.v 6) 7, .cell (.v 6) 0, .cell (.v 6) 1, .cell (.v 6) 2, .cell (.v 6) 3, .cell (.v 6) 4, .cell (.v 6) 5, .cell (.v 6) 6, .cell (.v 6) 7, .cell (.v 6) 0, .cell (.v 6) 1, .cell (.v 6) 2, .cell (.v 6) 3, .cell (.v 6) 4, .cell (.v 6) 5, .cell (.v 6) 6, .cell (.v 6) 7, .cell (.v 6) 0, .cell (.v 6) 1, .cell (.v 6) 2, .cell (.v 6) 3, .cell (.v 6) 4, .cell (.v 6) 5, .cell (.v 6) 6, .cell (.v 6) 7, .cell (.v 6) 0, .cell (.v 6) 1, .cell (.v 6) 2, .cell (.v 6) 3, .cell (.v 6) 4, .cell (.v 6) 5, .cell (.v 6) 6, .cell (.v 6) 7, .cell (.v 6) 0, .cell (.v 6) 1, .cell (.v 6) 2, .cell (.v 6) 3, .cell (.v 6) 4, .cell (.v 6) 5, .cell (.v 6) 6, .cell (.v 6) 7, .cell (.v 6) 0, .cell (.v 6) 1, .cell (.v 6) 2, .cell (.v 6) 3, .cell (.v 6) 4, .cell (.v 6) 5, .cell (.v 6) 6, .cell (.v 6) 7, .cell (.v 6) 0, .cell (.v 6) 1, .cell (.v 6) 2, .cell (.v 6) 3, .cell (.v 6) 4, .cell (.v 6) 5, .cell (.v 6) 6, .cell (.v 6) 7, .cell (.v 6) 0, .cell (.v 6) 1, .cell (.v 6) 2, .cell (.v 6) 3, .cell (.v 6) 4, .cell (.v 6) 5, .cell (.v 6) 6, .cell (.v 6) 7, .cell (.v 6) 0, .cell (.v 6) 1, .cell (.v 6) 2, .cell (.v 6) 3, .cell (.v 6) 4, .cell (.v 6) 5, .cell (.v 6) 6, .cell (.v 6) 7, .cell (.v 6) 0, .cell (.v 6) 1, .cell (.v 6) 2, .cell (.v 6) 3, .cell (.v 6) 4, .cell (.v 6) 5, .cell (.v 6) 6, .cell (.v 6) 7, .cell (.v 6) 0, .cell (.v 6) 1, .cell (.v 6) 2, .cell (.v 6) 3, .cell (.v 6) 4, .cell (.v 6) 5, .cell (.v 6) 6, .cell (.v 6) 7, .cell (.v 6) 0, .cell (.v 6) 1, .cell (.v 6) 2, .cell (.v 6) 3, .cell (.v 6) 4, .cell (.v 6) 5, .cell (.v 6) 6, .cell (.v 6) 7, .cell (.v 6) 0, .cell (.v 6) 1, .cell (.v 6) 2, .cell (.v 6) 3, .cell (.v 6) 4, .cell (.v 6) 5, .cell (.v 6) 6, .cell (.v 6) 7, .cell (.v 6) 0, .cell (.v 6) 1, .cell (.v 6) 2, .cell (.v 6) 3, .cell (.v 6) 4, .cell (.v 6) 5, .cell (.v 6) 6, .cell (.v 6) 7, .cell (.v 6) 0, .cell (.v 6) 1, .cell (.v 6) 2, .cell (.v 6) 3, .cell (.v 6) 4, .cell (.v 6) 5, .cell (.v 6) 6, .cell (.v 6) 7, .cell (.v 6) 0, .cell (.v 6) 1, .cell (.v 6) 2, .cell (.v 6) 3, .cell (.v 6) 4, .cell (.v 6) 5, .cell (.v 6) 6, .cell (.v 6) 7, .cell (.v 6) 0, .cell (.v 6) 1, .cell (.v 6) 2, .cell (.v 6) 3, .cell (.v 6) 4, .cell (.v 6) 5, .cell (.v 6) 6, .cell (.v 6) 7, .cell (.v 6) 0, .cell (.v 6) 1, .cell (.v 6) 2, .cell (.v 6) 3, .cell (.v 6) 4, .cell (.v 6) 5, .cell (.v 6) 6, .cell (.v 6) 7, .cell (.v 6) 0, .cell (.v 6) 1, .cell (.v 6) 2, .cell (.v 6) 3, .cell (.v 6) 4, .cell (.v 6) 5, .cell (.v 6) 6, .cell (.v 6) 7, .cell (.v 6) 0, .cell (.v 6) 1, .cell (.v 6) 2, .cell (.v 6) 3, .cell (.v 6) 4, .cell (.v 6) 5, .cell (.v 6) 6, .cell (.v 6) 7, .cell (.v 6) 0, .cell (.v 6) 1, .cell (.v 6) 2, .cell (.v 6) 3, .cell (.v 6) 4, .cell (.v 6) 5, .cell (.v 6) 6, .cell (.v 6) 7, .cell (.v 6) 0, .cell (.v 6) 1, .cell (.v 6) 2, .cell (.v 6) 3, .cell (.v 6) 4, .cell (.v 6) 5, .cell (.v 6) 6, .cell (.v 6) 7, .cell (.v 6) 0, .cell (.v 6) 1, .cell (.v 6) 2, .cell (.v 6) 3, .cell (.v 6) 4, .cell (.v 6) 5, .cell (.v 6) 6, .cell (.v 6) 7, .cell (.v 6) 0, .cell (.v 6) 1, .cell (.v 6) 2, .cell (.v 6) 3, .cell (.v 6) 4, .cell (.v 6) 5, .cell (.v 6) 6, .cell (.v 6) 7, .cell (.v 6) 0, .cell (.v 6) 1, .cell (.v 6) 2, .cell (.v 6) 3, .cell (.v 6) 4, .cell (.v 6) 5, .cell (.v 6) 6, .cell (.v 6) 7, .cell (.v 6) 0, .cell (.v 6) 1, .cell (.v 6) 2, .cell (.v 6) 3, .cell (.v 6) 4, .cell (.v 6) 5, .cell (.v 6) 6, .cell (.v 6) 7, .cell (.v 6) 0, .cell (.v 6) 1, .cell (.v 6) 2, .cell (.v 6) 3, .cell (.v 6) 4, .cell (.v 6) 5, .cell (.v 6) 6, .cell (.v 6) 7, .cell (.v 6) 0, .cell (.v 6) 1, .cell (.v 6) 2, .cell (.v 6) 3, .cell (.v 6) 4, .cell (.v 6) 5, .cell (.v 6) 6, .cell (.v 6) 7, .cell (.v 6) 0, .cell (.v 6) 1, .cell (.v 6) 2, .cell (.v 6) 3, .cell (.v 6) 4, .cell (.v 6) 5, .cell (.v 6) 6, .cell (.v 6) 7, .cell (.v 6) 0, .cell (.v 6) 1, .cell (.v 6) 2, .cell (.v 6) 3, .cell (.v 6) 4, .cell (.v 6) 5, .cell (.v 6) 6, .cell (.v 6) 7, .cell (.v 6) 0, .cell (.v 6) 1, .cell (.v 6) 2, .cell (.v 6) 3, .cell (.v 6) 4, .cell (.v 6) 5, .cell (.v 6) 6, .cell (.v 6) 7, .cell (.v 6) 0, .cell (.v 6) 1, .cell (.v 6) 2, .cell (.v 6) 3, .cell (.v 6) 4, .cell (.v 6) 5, .cell (.v 6) 6, .cell (.v 6) 7, .cell (.v 6) 0, .cell (.v 6) 1, .cell (.v 6) 2, .cell (.v 6) 3, .cell (.v 6) 4, .cell (.v 6) 5, .cell (.v 6) 6, .cell (.v 6) 7, .cell (.v 6) 0, .cell (.v 6) 1, .cell (.v 6) 2, .cell (.v 6) 3, .cell (.v 6) 4, .cell (.v 6) 5, .cell (.v 6) 6, .cell (.v 6) 7, .cell (.v 6) 0, .cell (.v 6) 1, .cell (.v 6) 2, .cell (.v 6) 3, .cell (.v 6) 4, .cell (.v 6) 5, .cell (.v 6) 6, .cell (.v 6) 7, .cell (.v 6) 0, .cell (.v 6) 1, .cell (.v 6) 2, .cell (.v 6) 3, .cell (.v 6) 4, .cell (.v 6) 5, .cell (.v 6) 6, .cell (.v 6) 7, .cell (.v 6) 0, .cell (.v 6) 1, .cell (.v 6) 2, .cell (.v 6) 3, .cell (.v 6) 4, .cell (.v 6) 5, .cell (.v 6) 6, .cell (.v 6) 7, .cell (.v 6) 0, .cell (.v 6) 1, .cell (.v 6) 2, .cell (.v 6) 3, .cell (.v 6) 4, .cell (.v 6) 5, .cell (.v 6) 6, .cell (.v 6) 7, .cell (.v 6) 0, .cell (.v 6) 1, .cell (.v 6) 2, .cell (.v 6) 3, .cell (.v 6) 4, .cell (.v 6) 5, .cell (.v 6) 6, .cell (.v 6) 7, .cell (.v 6) 0, .cell (.v 6) 1, .cell (.v 6) 2, .cell (.v 6) 3, .cell (.v 6) 4, .cell (.v 6) 5, .cell (.v 6) 6, .cell (.v 6) 7, .cell (.v 6) 0, .cell (.v 6) 1, .cell (.v 6) 2, .cell (.v 6) 3, .cell (.v 6) 4, .cell (.v 6) 5, .cell (.v 6) 6, .cell (.v 6) 7, .cell (.v 6) 0, .cell (.v 6) 1, .cell (.v 6) 2, .cell (.v 6) 3, .cell (.v 6) 4, .cell (.v 6) 5, .cell (.v 6) 6, .cell (.v 6) 7, .cell (.v 6) 0, .cell (.v 6) 1, .cell (.v 6) 2, .cell (.v 6) 3, .cell (.v 6) 4, .cell (.v 6) 5, .cell (.v 6) 6, .cell (.v 6) 7, .cell (.v 6) 0, .cell (.v 6) 1, .cell (.v 6) 2, .cell (.v 6) 3, .cell (.v 6) 4, .cell (.v 6) 5, .cell (.v 6) 6, .cell (.v 6) 7, .cell (.v 6) 0, .cell (.v 6) 1, .cell (.v 6) 2, .cell (.v 6) 3, .cell (.v 6) 4, .cell (.v 6) 5, .cell (.v 6) 6, .cell (.v 6) 7, .cell (.v 6) 0, .cell (.v 6) 1, .cell (.v 6) 2, .cell (.v 6) 3, .cell (.v 6) 4, .cell (.v 6) 5, .cell (.v 6) 6, .cell (.v 6) 7, .cell (.v 6) 0, .cell (.v 6) 1, .cell (.v 6) 2, .cell (.v 6) 3, .cell (.v 6) 4, .cell (.v 6) 5, .cell (.v 6) 6, .cell (.v 6) 7] <|
   .leaf 0) <|
  .fail) <|
 .fail,
 [.v 15], .own 8⟩
def F145 : Fn := ⟨[(some 2), none, none],
 .blk (
  .op (.bin .leq) [.v 1, .cell (.v 0) 0] <|
  .ite (.v 3) (.op (.bin .leq) [.cell (.v 0) 0, .cell (.v 0) 1] <|
   .ite (.v 4) (.op (.bin .leq) [.cell (.v 0) 1, .v 2] <|
    .leaf 0) <|
   .leaf 1) <|
  .leaf 2) [([.v 5], 0), ([.c (.bool false)], 0), ([.c (.bool false)], 0)] [.leaf 0],
 [.v 3], .e⟩
def F146 : Fn := ⟨[(some 2), (some 2)],
 .op (.un .neg) [.cell (.v 0) 0] <|
 .op (.un .neg) [.cell (.v 1) 0] <|
 .op (.listOf 3 4 [.int .i64 (0), .int .i64 (0), .int .i64 (0)] [0, 1, 2, 3]) [.c (.int .i64 (1)), .c (.int .i64 (0)), .cell (.v 0) 1, .c (.int .i64 (-1)), .c (.int .i64 (0)), .v 2, .c (.int .i64 (0)), .c (.int .i64 (1)), .cell (.v 1) 1, .c (.int .i64 (0)), .c (.int .i64 (-1)), .v 3] <|
 .leaf 0,
 [.v 4], .own 3⟩
def F147 : Fn := ⟨[none, (some 6)],
 .call 187 [.node [.cell (.v 1) 0, .cell (.v 1) 1], .node [.cell (.v 1) 2, .cell (.v 1) 3]] <|
 .call 187 [.node [.cell (.v 1) 0, .cell (.v 1) 1], .node [.cell (.v 1) 4, .cell (.v 1) 5]] <|
 .op .len [.v 0] <|
 .loop [.c (.int .i64 (0)), .c (.list [])] (
  .op (.bin .lss) [.v 5, .v 4] <|
  .ite (.v 7) (.op (.idx 3) [.v 0, .v 5] <|
   .op (.elem 0 (some 3)) [.v 0, .v 5] <|
   .op (.bin .mul) [.cell (.v 9) 0, .cell (.v 2) 0] <|
   .op (.bin .mul) [.cell (.v 9) 0, .cell (.v 2) 1] <|
   .op (.listOf 1 2 [.int .i64 (0)] [0, 1]) [.v 10, .v 11] <|
   .call 112 [.v 12] <|
   .flat (.cell (.v 13) 0) <|
   .flat (.cell (.v 13) 1) <|
   .op (.bin .mul) [.cell (.v 9) 1, .cell (.v 3) 0] <|
   .op (.bin .mul) [.cell (.v 9) 1, .cell (.v 3) 1] <|
   .op (.listOf 1 2 [.int .i64 (0)] [0, 1]) [.v 14, .v 15] <|
   .call 112 [.v 16] <|
   .flat (.cell (.v 17) 0) <|
   .flat (.cell (.v 17) 1) <|
   .op (.bin .add) [.cell (.v 13) 1, .cell (.v 17) 1] <|
   .op (.bin .add) [.cell (.v 9) 2, .v 18] <|
   .op (.listOf 3 1 [.int .i64 (0), .int .i64 (0), .int .i64 (0)] [0]) [.cell (.v 9) 0, .cell (.v 9) 1, .v 19] <|
   .op (.app 3 24) [.v 6, .v 20] <|
   .op (.bin .add) [.v 5, .c (.int .i64 (1))] <|
   .leaf 0) <|
  .leaf 1) [([.v 22, .v 21], none), ([.v 6], some 0)] [.leaf 0],
 [.v 5], .own 3⟩
def F148 : Fn := ⟨[none, none],
 .op .len [.v 0] <|
 .loop [.c (.int .i64 (0))] (
  .op (.bin .lss) [.v 3, .v 2] <|
  .ite (.v 4) (.op (.idx 3) [.v 0, .v 3] <|
   .op (.elem 0 (some 3)) [.v 0, .v 3] <|
   .callD (.v 1) [.node [.cell (.v 6) 0, .cell (.v 6) 1, .cell (.v 6) 2]] <|
   .flat (.node [.v 7]) <|
   .op (.un .not) [.v 7] <|
   .ite (.v 8) (.leaf 0) <|
   .op (.bin .add) [.v 3, .c (.int .i64 (1))] <|
   .leaf 1) <|
  .leaf 2) [([], some 0), ([.v 9], none), ([], some 1)] [.leaf 0,
  .leaf 1],
 [.c (.bool false), .c (.bool true)], .e⟩
def F149 : Fn := ⟨[(some 3)],
 .blk (
  .call 156 [.cell (.v 0) 0, .c (.int .i64 (-1000)), .c (.int .i64 (1000))] <|
  .ite (.v 1) (.call 156 [.cell (.v 0) 1, .c (.int .i64 (-1000)), .c (.int .i64 (1000))] <|
   .ite (.v 2) (.op (.bin .neq) [.cell (.v 0) 0, .c (.int .i64 (0))] <|
    .ite (.v 3) (.call 156 [.cell (.v 0) 2, .c (.int .i64 (-100000000000)), .c (.int .i64 (100000000000))] <|
     .leaf 0) <|
    .op (.bin .neq) [.cell (.v 0) 1, .c (.int .i64 (0))] <|
    .ite (.v 4) (.call 156 [.cell (.v 0) 2, .c (.int .i64 (-100000000000)), .c (.int .i64 (100000000000))] <|
     .leaf 1) <|
    .leaf 2) <|
   .leaf 3) <|
  .leaf 4) [([.v 4], 0), ([.v 5], 0), ([.c (.bool false)], 0), ([.c (.bool false)], 0), ([.c (.bool false)], 0)] [.leaf 0],
 [.v 1], .e⟩
def F150 : Fn := ⟨[none, none],
 .op (.listOf 1 2 [.list []] [0, 1]) [.v 0, .v 1] <|
 .call 106 [.v 2] <|
 .shal 1 (.v 3) <|
 .call 108 [.v 3] <|
 .flat (.v 4) <|
 .op (.un .not) [.v 4] <|
 .ite (.v 5) (.leaf 0) <|
 .blk (
  .op .len [.v 0] <|
  .loop [.c (.int .i64 (0))] (
   .op (.bin .lss) [.v 7, .v 6] <|
   .ite (.v 8) (.op (.idx 3) [.v 0, .v 7] <|
    .op (.elem 0 (some 3)) [.v 0, .v 7] <|
    .op (.sl 3 false true) [.v 0, .v 7] <|
    .op .len [.v 11] <|
    .loop [.c (.int .i64 (0))] (
     .op (.bin .lss) [.v 13, .v 12] <|
     .ite (.v 14) (.op (.idx 3) [.v 11, .v 13] <|
      .op (.elem 0 (some 3)) [.v 11, .v 13] <|
      .call 166 [.node [.cell (.v 10) 0, .cell (.v 10) 1, .cell (.v 10) 2], .node [.cell (.v 16) 0, .cell (.v 16) 1, .cell (.v 16) 2]] <|
      .blk (
       .ite (.cell (.v 17) 1) (.flat (.node [.cell (.cell (.v 17) 0) 0, .cell (.cell (.v 17) 0) 1, .cell (.cell (.v 17) 0) 2]) <|
        .call 148 [.v 0, .fn 167 [.node [.cell (.cell (.v 17) 0) 0, .cell (.cell (.v 17) 0) 1, .cell (.cell (.v 17) 0) 2]] []] <|
        .ite (.v 18) (.op .len [.v 1] <|
         .loop [.c (.int .i64 (0))] (
          .op (.bin .lss) [.v 20, .v 19] <|
          .ite (.v 21) (.op (.idx 3) [.v 1, .v 20] <|
           .op (.elem 0 (some 3)) [.v 1, .v 20] <|
           .call 167 [.node [.cell (.cell (.v 17) 0) 0, .cell (.cell (.v 17) 0) 1, .cell (.cell (.v 17) 0) 2], .node [.cell (.v 23) 0, .cell (.v 23) 1, .cell (.v 23) 2]] <|
           .op (.un .not) [.v 24] <|
           .ite (.v 25) (.leaf 0) <|
           .op (.bin .add) [.v 20, .c (.int .i64 (1))] <|
           .leaf 1) <|
          .leaf 2) [([], some 0), ([.v 26], none), ([], some 1)] [.leaf 0,
          .leaf 1]) <|
        .leaf 2) <|
       .leaf 3) [([], 0), ([], 1), ([], 1), ([], 1)] [.leaf 0,
       .op (.bin .add) [.v 13, .c (.int .i64 (1))] <|
       .leaf 1]) <|
     .leaf 2) [([], some 0), ([.v 18], none), ([], some 1)] [.leaf 0,
     .op (.bin .add) [.v 7, .c (.int .i64 (1))] <|
     .leaf 1]) <|
   .leaf 2) [([], some 0), ([.v 13], none), ([], some 1)] [.leaf 0,
   .leaf 1]) [([.c (.int .u8 (1))], 0), ([.c (.int .u8 (2))], 0)] [.leaf 1],
 [.c (.int .u8 (0)), .v 6], .e⟩
def F151 : Fn := ⟨[none, none, none],
 .blk (
  .op (.bin .geq) [.v 0, .v 1] <|
  .ite (.v 3) (.op (.bin .leq) [.v 0, .v 2] <|
   .leaf 0) <|
  .leaf 1) [([.v 4], 0), ([.c (.bool false)], 0)] [.leaf 0],
 [.v 3], .e⟩
def F152 : Fn := ⟨[(some 1)],
 .call 146 [.node [.c (.int .i64 (0)), .c (.int .i64 (0))], .node [.c (.int .i64 (0)), .c (.int .i64 (0))]] <|
 .blk (
  .op .len [.cell (.v 0) 0] <|
  .op .len [.v 1] <|
  .op (.bin .lss) [.v 2, .v 3] <|
  .ite (.v 4) (.leaf 0) <|
  .op .len [.cell (.v 0) 0] <|
  .op (.bin .gtr) [.v 5, .c (.int .i64 (40))] <|
  .ite (.v 6) (.leaf 1) <|
  .call 148 [.cell (.v 0) 0, .fn 149 [] []] <|
  .op (.un .not) [.v 7] <|
  .leaf 2) [([.c (.bool true)], 0), ([.c (.bool true)], 0), ([.v 8], 0)] [.ite (.v 2) (.leaf 0) <|
  .op .len [.v 1] <|
  .loop [.c (.int .i64 (0))] (
   .op (.bin .lss) [.v 4, .v 3] <|
   .ite (.v 5) (.op (.idx 3) [.v 1, .v 4] <|
    .op (.elem 0 (some 3)) [.v 1, .v 4] <|
    .op (.idx 3) [.cell (.v 0) 0, .v 4] <|
    .op (.elem 0 (some 3)) [.cell (.v 0) 0, .v 4] <|
    .blk (
     .op (.bin .neq) [.cell (.v 9) 0, .cell (.v 7) 0] <|
     .ite (.v 10) (.leaf 0) <|
     .op (.bin .neq) [.cell (.v 9) 1, .cell (.v 7) 1] <|
     .leaf 1) [([.c (.bool true)], 0), ([.v 11], 0)] [.ite (.v 10) (.leaf 0) <|
     .op (.bin .add) [.v 4, .c (.int .i64 (1))] <|
     .leaf 1]) <|
   .leaf 2) [([], some 0), ([.v 11], none), ([], some 1)] [.leaf 1,
   .leaf 2]],
 [.c (.bool false), .c (.bool false), .c (.bool true)], .e⟩
def F153 : Fn := ⟨[none, none],
 .blk (
  .call 156 [.v 0, .c (.int .i64 (-10000000)), .c (.int .i64 (10000000))] <|
  .ite (.v 2) (.call 156 [.v 1, .c (.int .i64 (-10000000)), .c (.int .i64 (10000000))] <|
   .leaf 0) <|
  .leaf 1) [([.v 3], 0), ([.c (.bool false)], 0)] [.leaf 0],
 [.v 2], .e⟩
def F154 : Fn := ⟨[(some 2)],
 .blk (
  .call 156 [.cell (.v 0) 0, .c (.int .i64 (-1000)), .c (.int .i64 (1000))] <|
  .ite (.v 1) (.call 156 [.cell (.v 0) 1, .c (.int .i64 (-1000)), .c (.int .i64 (1000))] <|
   .leaf 0) <|
  .leaf 1) [([.v 2], 0), ([.c (.bool false)], 0)] [.leaf 0],
 [.v 1], .e⟩
def F155 : Fn := ⟨[(some 2), (some 2)],
 .op (.bin .mul) [.cell (.v 0) 0, .cell (.v 1) 1] <|
 .op (.bin .mul) [.cell (.v 0) 1, .cell (.v 1) 0] <|
 .op (.bin .sub) [.v 2, .v 3] <|
 .op (.bin .gtr) [.v 4, .c (.int .i64 (0))] <|
 .leaf 0,
 [.v 5], .e⟩
def F156 : Fn := ⟨[none, none, none],
 .blk (
  .op (.bin .leq) [.v 1, .v 0] <|
  .ite (.v 3) (.op (.bin .leq) [.v 0, .v 2] <|
   .leaf 0) <|
  .leaf 1) [([.v 4], 0), ([.c (.bool false)], 0)] [.leaf 0],
 [.v 3], .e⟩
def F162 : Fn := ⟨[(some 10)],
 .op (.un .neg) [.cell (.v 0) 4] <|
 .op (.bin .mul) [.cell (.v 0) 3, .cell (.v 0) 2] <|
 .op (.bin .mul) [.cell (.v 0) 4, .cell (.v 0) 1] <|
 .op (.bin .sub) [.v 2, .v 3] <|
 .op (.un .neg) [.cell (.v 0) 5] <|
 .op (.bin .mul) [.cell (.v 0) 6, .cell (.v 0) 1] <|
 .op (.bin .mul) [.cell (.v 0) 5, .cell (.v 0) 2] <|
 .op (.bin .sub) [.v 6, .v 7] <|
 .op (.listOf 3 2 [.int .i64 (0), .int .i64 (0), .int .i64 (0)] [0, 1]) [.v 1, .cell (.v 0) 3, .v 4, .cell (.v 0) 6, .v 5, .v 8] <|
 .leaf 0,
 [.v 9], .own 3⟩
def F163 : Fn := ⟨[(some 10)],
 .op (.un .neg) [.cell (.v 0) 7] <|
 .op (.listOf 3 2 [.int .i64 (0), .int .i64 (0), .int .i64 (0)] [0, 1]) [.c (.int .i64 (0)), .c (.int .i64 (1)), .cell (.v 0) 8, .c (.int .i64 (0)), .c (.int .i64 (-1)), .v 1] <|
 .leaf 0,
 [.v 2], .own 3⟩
def F164 : Fn := ⟨[(some 10)],
 .op (.bin .sub) [.cell (.v 0) 1, .cell (.v 0) 9] <|
 .op (.bin .add) [.cell (.v 0) 1, .cell (.v 0) 9] <|
 .op (.bin .sub) [.cell (.v 0) 2, .cell (.v 0) 9] <|
 .op (.bin .add) [.cell (.v 0) 2, .cell (.v 0) 9] <|
 .call 146 [.node [.v 1, .v 2], .node [.v 3, .v 4]] <|
 .leaf 0,
 [.v 5], .own 3⟩
def F166 : Fn := ⟨[(some 3), (some 3)],
 .op (.bin .mul) [.cell (.v 0) 2, .cell (.v 1) 1] <|
 .op (.bin .mul) [.cell (.v 1) 2, .cell (.v 0) 1] <|
 .op (.bin .sub) [.v 2, .v 3] <|
 .op (.bin .mul) [.cell (.v 0) 0, .cell (.v 1) 2] <|
 .op (.bin .mul) [.cell (.v 1) 0, .cell (.v 0) 2] <|
 .op (.bin .sub) [.v 5, .v 6] <|
 .op (.bin .mul) [.cell (.v 0) 0, .cell (.v 1) 1] <|
 .op (.bin .mul) [.cell (.v 1) 0, .cell (.v 0) 1] <|
 .op (.bin .sub) [.v 8, .v 9] <|
 .op (.bin .lss) [.v 10, .c (.int .i64 (0))] <|
 .blk (
  .ite (.v 11) (.op (.un .neg) [.v 4] <|
   .op (.un .neg) [.v 7] <|
   .op (.un .neg) [.v 10] <|
   .leaf 0) <|
  .leaf 1) [([.v 12, .v 13, .v 14], 0), ([.v 4, .v 7, .v 10], 0)] [.op (.bin .gtr) [.v 14, .c (.int .i64 (0))] <|
  .leaf 0],
 [.node [.node [.v 12, .v 13, .v 14], .v 15]], .tup [.node [.e, .e, .e], .e]⟩
def F167 : Fn := ⟨[(some 3), (some 3)],
 .op (.bin .mul) [.cell (.v 1) 0, .cell (.v 0) 0] <|
 .op (.bin .mul) [.cell (.v 1) 1, .cell (.v 0) 1] <|
 .op (.bin .add) [.v 2, .v 3] <|
 .op (.bin .mul) [.cell (.v 1) 2, .cell (.v 0) 2] <|
 .op (.bin .leq) [.v 4, .v 5] <|
 .leaf 0,
 [.v 6], .e⟩
def F168 : Fn := ⟨[none],
 .op .len [.v 0] <|
 .op (.bin .lss) [.v 1, .c (.int .i64 (1))] <|
 .ite (.v 2) (.fail) <|
 .op (.idx 1) [.v 0, .c (.int .i64 (0))] <|
 .op (.elem 0 none) [.v 0, .c (.int .i64 (0))] <|
 .loop [.v 4, .c (.int .i64 (1))] (
  .op .len [.v 0] <|
  .op (.bin .lss) [.v 6, .v 7] <|
  .ite (.v 8) (.op (.idx 1) [.v 0, .v 6] <|
   .op (.elem 0 none) [.v 0, .v 6] <|
   .op (.mx false) [.v 5, .v 10] <|
   .op (.bin .add) [.v 6, .c (.int .i64 (1))] <|
   .leaf 0) <|
  .leaf 1) [([.v 11, .v 12], none), ([.v 5], some 0)] [.leaf 0],
 [.v 5], .e⟩
def F169 : Fn := ⟨[none],
 .op .len [.v 0] <|
 .op (.bin .lss) [.v 1, .c (.int .i64 (1))] <|
 .ite (.v 2) (.fail) <|
 .op (.idx 1) [.v 0, .c (.int .i64 (0))] <|
 .op (.elem 0 none) [.v 0, .c (.int .i64 (0))] <|
 .loop [.v 4, .c (.int .i64 (1))] (
  .op .len [.v 0] <|
  .op (.bin .lss) [.v 6, .v 7] <|
  .ite (.v 8) (.op (.idx 1) [.v 0, .v 6] <|
   .op (.elem 0 none) [.v 0, .v 6] <|
   .op (.mx true) [.v 5, .v 10] <|
   .op (.bin .add) [.v 6, .c (.int .i64 (1))] <|
   .leaf 0) <|
  .leaf 1) [([.v 11, .v 12], none), ([.v 5], some 0)] [.leaf 0],
 [.v 5], .e⟩
def F173 : Fn := ⟨[(some 17), (some 7)],
 .call 190 [.node [.cell (.v 0) 0, .cell (.v 0) 1, .cell (.v 0) 2, .cell (.v 0) 3, .cell (.v 0) 4, .cell (.v 0) 5, .cell (.v 0) 6, .cell (.v 0) 7, .cell (.v 0) 8, .cell (.v 0) 9, .cell (.v 0) 10, .cell (.v 0) 11, .cell (.v 0) 12, .cell (.v 0) 13, .cell (.v 0) 14, .cell (.v 0) 15, .cell (.v 0) 16]] <|
 .op (.bin .neq) [.v 2, .c (.int .i64 (0))] <|
 .ite (.v 3) (.leaf 0) <|
 .blk (
  .op (.listOf 2 1 [.int .i64 (0), .int .i64 (0)] [0]) [.cell (.v 1) 0, .cell (.v 1) 1] <|
  .call 191 [.cell (.v 0) 0, .v 4] <|
  .flat (.v 5) <|
  .op (.un .not) [.v 5] <|
  .ite (.v 6) (.leaf 0) <|
  .op (.listOf 2 1 [.int .i64 (0), .int .i64 (0)] [0]) [.cell (.v 1) 2, .cell (.v 1) 3] <|
  .call 191 [.cell (.v 0) 1, .v 7] <|
  .flat (.v 8) <|
  .op (.un .not) [.v 8] <|
  .ite (.v 9) (.leaf 1) <|
  .op (.listOf 2 1 [.int .i64 (0), .int .i64 (0)] [0]) [.cell (.v 1) 4, .cell (.v 1) 5] <|
  .call 191 [.c (.int .i64 (1000)), .v 10] <|
  .flat (.v 11) <|
  .op (.un .not) [.v 11] <|
  .leaf 2) [([.c (.bool true)], 0), ([.c (.bool true)], 0), ([.v 12], 0)] [.ite (.v 4) (.leaf 1) <|
  .leaf 2],
 [.v 2, .c (.int .i64 (11)), .c (.int .i64 (0))], .e⟩
def F174 : Fn := ⟨[none],
 .op .len [.v 0] <|
 .loop [.c (.int .i64 (0))] (
  .op (.bin .lss) [.v 2, .v 1] <|
  .ite (.v 3) (.op (.idx 8) [.v 0, .v 2] <|
   .op (.elem 0 (some 8)) [.v 0, .v 2] <|
   .blk (
    .op (.bin .lss) [.cell (.v 5) 0, .c (.int .i64 (0))] <|
    .ite (.v 6) (.leaf 0) <|
    .op (.bin .gtr) [.cell (.v 5) 0, .c (.int .i64 (24))] <|
    .ite (.v 7) (.leaf 1) <|
    .op (.bin .lss) [.cell (.v 5) 1, .c (.int .i64 (0))] <|
    .ite (.v 8) (.leaf 2) <|
    .op (.bin .gtr) [.cell (.v 5) 1, .c (.int .i64 (1000000))] <|
    .leaf 3) [([.c (.bool true)], 0), ([.c (.bool true)], 0), ([.c (.bool true)], 0), ([.v 9], 0)] [.blk (
     .ite (.v 6) (.leaf 0) <|
     .blk (
      .op (.listOf 2 1 [.int .i64 (0), .int .i64 (0)] [0]) [.cell (.v 5) 2, .cell (.v 5) 3] <|
      .call 191 [.c (.int .i64 (60)), .v 7] <|
      .flat (.v 8) <|
      .op (.un .not) [.v 8] <|
      .ite (.v 9) (.leaf 0) <|
      .op (.listOf 2 2 [.int .i64 (0), .int .i64 (0)] [0, 1]) [.cell (.v 5) 4, .cell (.v 5) 5, .cell (.v 5) 6, .cell (.v 5) 7] <|
      .call 191 [.c (.int .i64 (1000000)), .v 10] <|
      .flat (.v 11) <|
      .op (.un .not) [.v 11] <|
      .leaf 1) [([.c (.bool true)], 0), ([.v 12], 0)] [.ite (.v 7) (.leaf 1) <|
      .leaf 2]) [([], 0), ([], 0), ([], 1)] [.leaf 0,
     .op (.bin .add) [.v 2, .c (.int .i64 (1))] <|
     .leaf 1]]) <|
  .leaf 2) [([], some 0), ([.v 7], none), ([], some 1)] [.leaf 0,
  .leaf 1],
 [.c (.int .i64 (12)), .c (.int .i64 (0))], .e⟩
def F176 : Fn := ⟨[(some 24), (some 8)],
 .call 192 [.node [.cell (.v 0) 0, .cell (.v 0) 1, .cell (.v 0) 2, .cell (.v 0) 3, .cell (.v 0) 4, .cell (.v 0) 5, .cell (.v 0) 6, .cell (.v 0) 7, .cell (.v 0) 8, .cell (.v 0) 9, .cell (.v 0) 10, .cell (.v 0) 11, .cell (.v 0) 12, .cell (.v 0) 13, .cell (.v 0) 14, .cell (.v 0) 15, .cell (.v 0) 16, .cell (.v 0) 17, .cell (.v 0) 18, .cell (.v 0) 19, .cell (.v 0) 20, .cell (.v 0) 21, .cell (.v 0) 22, .cell (.v 0) 23], .node [.cell (.v 1) 0, .cell (.v 1) 1, .cell (.v 1) 2, .cell (.v 1) 3, .cell (.v 1) 4, .cell (.v 1) 5, .cell (.v 1) 6, .cell (.v 1) 7]] <|
 .blk (
  .op (.bin .lss) [.cell (.v 0) 18, .cell (.v 2) 0] <|
  .ite (.v 3) (.leaf 0) <|
  .op (.bin .lss) [.cell (.v 0) 17, .cell (.v 2) 1] <|
  .blk (
   .ite (.v 4) (.leaf 0) <|
   .leaf 1) [([.c (.int .u8 (1))], 0), ([.c (.int .u8 (0))], 0)] [.op (.bin .lss) [.cell (.v 0) 20, .cell (.v 2) 2] <|
   .ite (.v 6) (.leaf 1) <|
   .op (.bin .lss) [.cell (.v 0) 19, .cell (.v 2) 3] <|
   .blk (
    .ite (.v 7) (.leaf 0) <|
    .leaf 1) [([.c (.int .u8 (1))], 0), ([.v 5], 0)] [.leaf 2]]) [([], 0), ([], 0), ([.v 8], 1)] [.leaf 0,
  .op (.bin .eql) [.cell (.v 1) 0, .c (.int .i64 (0))] <|
  .blk (
   .ite (.v 4) (.leaf 0) <|
   .leaf 1) [([.cell (.v 0) 14], 0), ([.c (.int .i64 (0))], 0)] [.call 193 [.node [.cell (.v 0) 17, .cell (.v 0) 18], .node [.cell (.v 2) 0, .cell (.v 2) 1], .node [.cell (.v 1) 6, .cell (.v 1) 7], .cell (.v 0) 0] <|
   .call 193 [.node [.cell (.v 0) 19, .cell (.v 0) 20], .node [.cell (.v 2) 2, .cell (.v 2) 3], .node [.cell (.v 1) 4, .cell (.v 1) 5], .cell (.v 0) 1] <|
   .op (.listOf 2 2 [.int .i64 (0), .int .i64 (0)] [0, 1]) [.cell (.v 0) 21, .cell (.v 0) 22, .cell (.v 2) 4, .cell (.v 2) 5] <|
   .call 196 [.v 8] <|
   .flat (.cell (.v 9) 0) <|
   .flat (.cell (.v 9) 1) <|
   .call 124 [.v 5] <|
   .call 195 [.node [.cell (.v 9) 0, .cell (.v 9) 1], .node [.cell (.v 10) 0, .cell (.v 10) 1]] <|
   .call 194 [.node [.cell (.v 11) 0, .cell (.v 11) 1], .c (.int .i64 (1000))] <|
   .leaf 1]],
 [.node [.node [.c (.int .i64 (0)), .c (.int .i64 (0)), .c (.int .i64 (0)), .c (.int .i64 (0)), .c (.int .i64 (0)), .c (.int .i64 (0)), .c (.int .i64 (0)), .c (.int .i64 (0)), .c (.int .i64 (0)), .c (.int .i64 (0)), .c (.int .i64 (0)), .c (.int .i64 (0)), .c (.int .i64 (0)), .c (.int .i64 (0)), .c (.int .i64 (0)), .c (.int .i64 (0)), .c (.int .i64 (0)), .c (.int .i64 (0)), .c (.int .i64 (0)), .c (.int .i64 (0)), .c (.int .i64 (0)), .c (.int .i64 (0)), .c (.int .i64 (0)), .c (.bool false)], .c (.int .u8 (2))], .node [.node [.cell (.v 0) 0, .cell (.v 0) 1, .cell (.v 0) 2, .cell (.v 0) 3, .cell (.v 0) 4, .cell (.v 0) 5, .cell (.v 0) 6, .cell (.v 0) 7, .cell (.v 0) 8, .cell (.v 0) 9, .cell (.v 0) 10, .cell (.v 0) 11, .cell (.v 0) 12, .cell (.v 0) 13, .cell (.v 0) 14, .cell (.v 0) 15, .cell (.v 0) 16, .cell (.v 6) 0, .cell (.v 6) 1, .cell (.v 7) 0, .cell (.v 7) 1, .cell (.v 12) 0, .cell (.v 12) 1, .cell (.v 0) 23], .v 3]], .tup [.node [.e, .e, .e, .e, .e, .e, .e, .e, .e, .e, .e, .e, .e, .e, .e, .e, .e, .e, .e, .e, .e, .e, .e, .e], .e]⟩
def F187 : Fn := ⟨[(some 2), (some 2)],
 .op (.bin .mul) [.cell (.v 0) 0, .cell (.v 1) 0] <|
 .op (.bin .mul) [.cell (.v 0) 0, .cell (.v 1) 1] <|
 .op (.bin .mul) [.cell (.v 0) 1, .cell (.v 1) 0] <|
 .op (.bin .mul) [.cell (.v 0) 1, .cell (.v 1) 1] <|
 .op (.listOf 1 4 [.int .i64 (0)] [0, 1, 2, 3]) [.v 2, .v 3, .v 4, .v 5] <|
 .call 112 [.v 6] <|
 .flat (.cell (.v 7) 0) <|
 .flat (.cell (.v 7) 1) <|
 .leaf 0,
 [.node [.cell (.v 7) 0, .cell (.v 7) 1]], .node [.e, .e]⟩
def F190 : Fn := ⟨[(some 17)],
 .blk (
  .op (.bin .lss) [.cell (.v 0) 0, .c (.int .i64 (1))] <|
  .ite (.v 1) (.leaf 0) <|
  .op (.bin .gtr) [.cell (.v 0) 0, .c (.int .i64 (1000000))] <|
  .ite (.v 2) (.leaf 1) <|
  .op (.bin .lss) [.cell (.v 0) 1, .c (.int .i64 (1))] <|
  .ite (.v 3) (.leaf 2) <|
  .op (.bin .gtr) [.cell (.v 0) 1, .c (.int .i64 (1000000))] <|
  .leaf 3) [([.c (.bool true)], 0), ([.c (.bool true)], 0), ([.c (.bool true)], 0), ([.v 4], 0)] [.blk (
   .ite (.v 1) (.leaf 0) <|
   .op (.listOf 2 6 [.int .i64 (0), .int .i64 (0)] [0, 1, 2, 3, 4, 5]) [.cell (.v 0) 2, .cell (.v 0) 3, .cell (.v 0) 4, .cell (.v 0) 5, .cell (.v 0) 6, .cell (.v 0) 7, .cell (.v 0) 8, .cell (.v 0) 9, .cell (.v 0) 10, .cell (.v 0) 11, .cell (.v 0) 12, .cell (.v 0) 13] <|
   .call 191 [.c (.int .i64 (100000)), .v 2] <|
   .flat (.v 3) <|
   .op (.un .not) [.v 3] <|
   .blk (
    .ite (.v 4) (.leaf 0) <|
    .blk (
     .op (.bin .lss) [.cell (.v 0) 14, .c (.int .i64 (0))] <|
     .ite (.v 5) (.leaf 0) <|
     .op (.bin .gtr) [.cell (.v 0) 14, .c (.int .i64 (1000))] <|
     .ite (.v 6) (.leaf 1) <|
     .op (.listOf 2 1 [.int .i64 (0), .int .i64 (0)] [0]) [.cell (.v 0) 15, .cell (.v 0) 16] <|
     .call 191 [.c (.int .i64 (1000000)), .v 7] <|
     .flat (.v 8) <|
     .op (.un .not) [.v 8] <|
     .leaf 2) [([.c (.bool true)], 0), ([.c (.bool true)], 0), ([.v 9], 0)] [.ite (.v 5) (.leaf 1) <|
     .leaf 2]) [([], 0), ([], 0), ([], 1)] [.leaf 1,
    .leaf 2]) [([], 0), ([], 0), ([], 1)] [.leaf 0,
   .leaf 1]],
 [.c (.int .i64 (10)), .c (.int .i64 (0))], .e⟩
def F191 : Fn := ⟨[none, none],
 .op .len [.v 1] <|
 .loop [.c (.int .i64 (0))] (
  .op (.bin .lss) [.v 3, .v 2] <|
  .ite (.v 4) (.op (.idx 2) [.v 1, .v 3] <|
   .op (.elem 0 (some 2)) [.v 1, .v 3] <|
   .blk (
    .op (.bin .lss) [.cell (.v 6) 0, .c (.int .i64 (0))] <|
    .ite (.v 7) (.leaf 0) <|
    .op (.bin .gtr) [.cell (.v 6) 0, .cell (.v 6) 1] <|
    .ite (.v 8) (.leaf 1) <|
    .op (.bin .gtr) [.cell (.v 6) 1, .v 0] <|
    .leaf 2) [([.c (.bool true)], 0), ([.c (.bool true)], 0), ([.v 9], 0)] [.ite (.v 7) (.leaf 0) <|
    .op (.bin .add) [.v 3, .c (.int .i64 (1))] <|
    .leaf 1]) <|
  .leaf 2) [([], some 0), ([.v 8], none), ([], some 1)] [.leaf 0,
  .leaf 1],
 [.c (.bool false), .c (.bool true)], .e⟩
def F192 : Fn := ⟨[(some 24), (some 8)],
 .op (.bin .sub) [.cell (.v 1) 2, .c (.int .i64 (20))] <|
 .op (.mx true) [.c (.int .i64 (0)), .v 2] <|
 .op (.bin .sub) [.cell (.v 1) 3, .c (.int .i64 (20))] <|
 .op (.mx true) [.c (.int .i64 (0)), .v 4] <|
 .op (.bin .add) [.c (.int .i64 (100000)), .cell (.v 1) 1] <|
 .op (.bin .mul) [.cell (.v 1) 0, .v 6] <|
 .call 124 [.v 7] <|
 .op (.listOf 2 2 [.int .i64 (0), .int .i64 (0)] [0, 1]) [.cell (.v 0) 4, .cell (.v 0) 5, .v 3, .v 5] <|
 .call 203 [.c (.int .i64 (1)), .v 9] <|
 .flat (.cell (.v 10) 0) <|
 .flat (.cell (.v 10) 1) <|
 .op (.listOf 2 2 [.int .i64 (0), .int .i64 (0)] [0, 1]) [.cell (.v 0) 6, .cell (.v 0) 7, .cell (.v 8) 0, .cell (.v 8) 1] <|
 .call 203 [.c (.int .i64 (100000)), .v 11] <|
 .flat (.cell (.v 12) 0) <|
 .flat (.cell (.v 12) 1) <|
 .op (.listOf 2 3 [.int .i64 (0), .int .i64 (0)] [0, 1, 2]) [.cell (.v 0) 2, .cell (.v 0) 3, .cell (.v 10) 0, .cell (.v 10) 1, .cell (.v 12) 0, .cell (.v 12) 1] <|
 .call 196 [.v 13] <|
 .flat (.cell (.v 14) 0) <|
 .flat (.cell (.v 14) 1) <|
 .blk (
  .ite (.cell (.v 0) 23) (.op (.listOf 2 2 [.int .i64 (0), .int .i64 (0)] [0, 1]) [.cell (.v 14) 0, .cell (.v 14) 1, .cell (.v 0) 12, .cell (.v 0) 13] <|
   .call 196 [.v 15] <|
   .flat (.cell (.v 16) 0) <|
   .flat (.cell (.v 16) 1) <|
   .leaf 0) <|
  .leaf 1) [([.cell (.v 16) 0, .cell (.v 16) 1], 0), ([.cell (.v 14) 0, .cell (.v 14) 1], 0)] [.op (.listOf 2 2 [.int .i64 (0), .int .i64 (0)] [0, 1]) [.cell (.v 0) 8, .cell (.v 0) 9, .cell (.v 8) 0, .cell (.v 8) 1] <|
  .call 203 [.c (.int .i64 (100000)), .v 17] <|
  .flat (.cell (.v 18) 0) <|
  .flat (.cell (.v 18) 1) <|
  .op (.bin .mul) [.cell (.v 1) 0, .cell (.v 1) 1] <|
  .call 124 [.v 19] <|
  .op (.listOf 2 2 [.int .i64 (0), .int .i64 (0)] [0, 1]) [.cell (.v 0) 10, .cell (.v 0) 11, .cell (.v 20) 0, .cell (.v 20) 1] <|
  .call 203 [.c (.int .i64 (1000000)), .v 21] <|
  .flat (.cell (.v 22) 0) <|
  .flat (.cell (.v 22) 1) <|
  .leaf 0],
 [.node [.v 15, .v 16, .cell (.v 18) 0, .cell (.v 18) 1, .cell (.v 22) 0, .cell (.v 22) 1]], .node [.e, .e, .e, .e, .e, .e]⟩
def F193 : Fn := ⟨[(some 2), (some 2), (some 2), none],
 .call 195 [.node [.cell (.v 0) 0, .cell (.v 0) 1], .node [.cell (.v 1) 0, .cell (.v 1) 1]] <|
 .call 194 [.node [.cell (.v 4) 0, .cell (.v 4) 1], .v 3] <|
 .op (.listOf 2 2 [.int .i64 (0), .int .i64 (0)] [0, 1]) [.cell (.v 5) 0, .cell (.v 5) 1, .cell (.v 2) 0, .cell (.v 2) 1] <|
 .call 196 [.v 6] <|
 .flat (.cell (.v 7) 0) <|
 .flat (.cell (.v 7) 1) <|
 .call 194 [.node [.cell (.v 7) 0, .cell (.v 7) 1], .v 3] <|
 .leaf 0,
 [.node [.cell (.v 8) 0, .cell (.v 8) 1]], .node [.e, .e]⟩
def F194 : Fn := ⟨[(some 2), none],
 .op (.mx true) [.cell (.v 0) 0, .c (.int .i64 (0))] <|
 .op (.mx false) [.v 2, .v 1] <|
 .op (.mx true) [.cell (.v 0) 1, .c (.int .i64 (0))] <|
 .op (.mx false) [.v 4, .v 1] <|
 .leaf 0,
 [.node [.v 3, .v 5]], .node [.e, .e]⟩
def F195 : Fn := ⟨[(some 2), (some 2)],
 .op (.bin .sub) [.cell (.v 0) 0, .cell (.v 1) 1] <|
 .op (.bin .sub) [.cell (.v 0) 1, .cell (.v 1) 0] <|
 .leaf 0,
 [.node [.v 2, .v 3]], .node [.e, .e]⟩
def F196 : Fn := ⟨[none],
 .op .len [.v 0] <|
 .loop [.c (.int .i64 (0)), .c (.int .i64 (0)), .c (.int .i64 (0))] (
  .op (.bin .lss) [.v 2, .v 1] <|
  .ite (.v 5) (.op (.idx 2) [.v 0, .v 2] <|
   .op (.elem 0 (some 2)) [.v 0, .v 2] <|
   .op (.bin .add) [.v 3, .cell (.v 7) 0] <|
   .op (.bin .add) [.v 4, .cell (.v 7) 1] <|
   .op (.bin .add) [.v 2, .c (.int .i64 (1))] <|
   .leaf 0) <|
  .leaf 1) [([.v 10, .v 8, .v 9], none), ([.v 3, .v 4], some 0)] [.leaf 0],
 [.node [.v 2, .v 3]], .node [.e, .e]⟩
def F203 : Fn := ⟨[none, none],
 .call 124 [.c (.int .i64 (1))] <|
 .op .len [.v 1] <|
 .loop [.c (.int .i64 (0)), .cell (.v 2) 0, .cell (.v 2) 1] (
  .op (.bin .lss) [.v 4, .v 3] <|
  .ite (.v 7) (.op (.idx 2) [.v 1, .v 4] <|
   .op (.elem 0 (some 2)) [.v 1, .v 4] <|
   .op (.bin .mul) [.v 5, .cell (.v 9) 0] <|
   .op (.bin .mul) [.v 6, .cell (.v 9) 1] <|
   .op (.bin .add) [.v 4, .c (.int .i64 (1))] <|
   .leaf 0) <|
  .leaf 1) [([.v 12, .v 10, .v 11], none), ([.v 5, .v 6], some 0)] [.op (.bin .quo) [.v 4, .v 0] <|
  .op (.bin .add) [.v 5, .v 0] <|
  .op (.bin .sub) [.v 7, .c (.int .i64 (1))] <|
  .op (.bin .quo) [.v 8, .v 0] <|
  .leaf 0],
 [.node [.v 6, .v 9]], .node [.e, .e]⟩
def FN (f : FuncId) : Option Fn :=
  match f with
  | 7 => some F7
  | 8 => some F8
  | 26 => some F26
  | 31 => some F31
  | 32 => some F32
  | 33 => some F33
  | 34 => some F34
  | 35 => some F35
  | 36 => some F36
  | 37 => some F37
  | 38 => some F38
  | 39 => some F39
  | 40 => some F40
  | 41 => some F41
  | 95 => some F95
  | 96 => some F96
  | 100 => some F100
  | 101 => some F101
  | 103 => some F103
  | 106 => some F106
  | 107 => some F107
  | 108 => some F108
  | 112 => some F112
  | 115 => some F115
  | 116 => some F116
  | 117 => some F117
  | 118 => some F118
  | 119 => some F119
  | 120 => some F120
  | 121 => some F121
  | 123 => some F123
  | 124 => some F124
  | 125 => some F125
  | 127 => some F127
  | 145 => some F145
  | 146 => some F146
  | 147 => some F147
  | 148 => some F148
  | 149 => some F149
  | 150 => some F150
  | 151 => some F151
  | 152 => some F152
  | 153 => some F153
  | 154 => some F154
  | 155 => some F155
  | 156 => some F156
  | 162 => some F162
  | 163 => some F163
  | 164 => some F164
  | 166 => some F166
  | 167 => some F167
  | 168 => some F168
  | 169 => some F169
  | 173 => some F173
  | 174 => some F174
  | 176 => some F176
  | 187 => some F187
  | 190 => some F190
  | 191 => some F191
  | 192 => some F192
  | 193 => some F193
  | 194 => some F194
  | 195 => some F195
  | 196 => some F196
  | 203 => some F203
  | _ => none
end Go.Q
