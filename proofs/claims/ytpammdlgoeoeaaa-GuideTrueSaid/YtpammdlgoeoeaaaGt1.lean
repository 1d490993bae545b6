/- Guide: GuideTrue in pieces. -/
import Derived.Test.YtpammdlgoeoeaaaGt0
set_option linter.unusedVariables false
set_option linter.unusedSimpArgs false
namespace Go.Q
open Go.V
def tA0 : T :=
  .op .len [.v 3] <|
      .op (.bin .lss) [.v 15, .v 19] <|
      .ite (.v 20) (.op (.idx 10) [.v 3, .v 15] <|
       .op (.elem 0 (some 10)) [.v 3, .v 15] <|
       .call 42 [.node [.cell (.v 22) 0, .cell (.v 22) 1, .cell (.v 22) 2, .cell (.v 22) 3, .cell (.v 22) 4, .cell (.v 22) 5, .cell (.v 22) 6, .cell (.v 22) 7, .cell (.v 22) 8, .cell (.v 22) 9]] <|
       .ite (.v 23) (.op (.idx 10) [.v 3, .v 15] <|
        .op (.elem 0 (some 10)) [.v 3, .v 15] <|
        .call 43 [.node [.cell (.v 25) 0, .cell (.v 25) 1, .cell (.v 25) 2, .cell (.v 25) 3, .cell (.v 25) 4, .cell (.v 25) 5, .cell (.v 25) 6, .cell (.v 25) 7, .cell (.v 25) 8, .cell (.v 25) 9], .v 13, .v 14] <|
        .leaf 0) <|
       .leaf 1) <|
      .leaf 2
def tA1 : T :=
  .ite (.v 19) (.op (.idx 10) [.v 3, .v 15] <|
        .op (.elem 0 (some 10)) [.v 3, .v 15] <|
        .op (.listOf 10 1 [.int .u8 (0), .int .i64 (0), .int .i64 (0), .int .i64 (0), .int .i64 (0), .int .i64 (0), .int .i64 (0), .int .i64 (0), .int .i64 (0), .int .i64 (0)] [0]) [.cell (.v 21) 0, .cell (.v 21) 1, .cell (.v 21) 2, .cell (.v 21) 3, .cell (.v 21) 4, .cell (.v 21) 5, .cell (.v 21) 6, .cell (.v 21) 7, .cell (.v 21) 8, .cell (.v 21) 9] <|
        .op (.app 10 80) [.v 17, .v 22] <|
        .op (.idx 10) [.v 3, .v 15] <|
        .op (.elem 0 (some 10)) [.v 3, .v 15] <|
        .shal 4 (.node [.v 16]) <|
        .call 15 [.node [.v 16], .node [.cell (.v 25) 0, .cell (.v 25) 1, .cell (.v 25) 2, .cell (.v 25) 3, .cell (.v 25) 4, .cell (.v 25) 5, .cell (.v 25) 6, .cell (.v 25) 7, .cell (.v 25) 8, .cell (.v 25) 9]] <|
        .flat (.cell (.v 26) 1) <|
        .shal 1 (.cell (.cell (.v 26) 0) 0) <|
        .op (.bin .eql) [.cell (.v 26) 1, .c (.int .i64 (0))] <|
        .blk (
         .ite (.v 27) (.leaf 0) <|
         .op (.bin .neq) [.cell (.v 26) 1, .c (.int .i64 (9))] <|
         .ite (.v 28) (.leaf 1) <|
         .leaf 2) [([.cell (.cell (.v 26) 0) 0], 0), ([], 1), ([.v 16], 0)] [.leaf 0,
         .leaf 1]) <|
       .leaf 2
def tBD : T :=
  .op (.bin .neq) [.cell (.v 24) 2, .c (.int .i64 (0))] <|
        .ite (.v 25) (.leaf 0) <|
        .op (.bin .lss) [.v 13, .cell (.cell (.v 24) 0) 0] <|
        .ite (.v 26) (.leaf 1) <|
        .op (.bin .gtr) [.v 13, .cell (.cell (.v 24) 0) 1] <|
        .ite (.v 27) (.leaf 2) <|
        .op (.bin .lss) [.v 14, .cell (.cell (.v 24) 1) 0] <|
        .ite (.v 28) (.leaf 3) <|
        .op (.bin .gtr) [.v 14, .cell (.cell (.v 24) 1) 1] <|
        .leaf 4
def tNR : T :=
  .op (.bin .neq) [.cell (.v 34) 1, .c (.int .i64 (0))] <|
         .ite (.v 41) (.leaf 0) <|
         .op (.bin .eql) [.cell (.v 34) 0, .c (.int .u8 (2))] <|
         .ite (.v 42) (.op (.un .not) [.v 40] <|
          .ite (.v 43) (.leaf 1) <|
          .op (.bin .eql) [.cell (.v 34) 0, .c (.int .u8 (0))] <|
          .ite (.v 44) (.leaf 2) <|
          .leaf 3) <|
         .op (.bin .eql) [.cell (.v 34) 0, .c (.int .u8 (0))] <|
         .ite (.v 43) (.leaf 4) <|
         .leaf 5
def tT0 : T :=
  .op .len [.v 4] <|
          .op (.bin .lss) [.v 15, .v 44] <|
          .ite (.v 45) (.op (.idx 6) [.v 4, .v 15] <|
           .op (.elem 0 (some 6)) [.v 4, .v 15] <|
           .call 45 [.node [.cell (.v 47) 0, .cell (.v 47) 1, .cell (.v 47) 2, .cell (.v 47) 3, .cell (.v 47) 4, .cell (.v 47) 5]] <|
           .leaf 0) <|
          .leaf 1
def tT1 : T :=
  .ite (.v 44) (.op (.idx 6) [.v 4, .v 15] <|
            .op (.elem 0 (some 6)) [.v 4, .v 15] <|
            .shal 4 (.node [.v 20]) <|
            .call 25 [.node [.v 20], .node [.cell (.v 46) 0, .cell (.v 46) 1, .cell (.v 46) 2, .cell (.v 46) 3, .cell (.v 46) 4, .cell (.v 46) 5]] <|
            .flat (.cell (.v 47) 1) <|
            .shal 1 (.cell (.cell (.v 47) 0) 0) <|
            .op (.bin .neq) [.cell (.v 47) 1, .c (.int .i64 (0))] <|
            .ite (.v 48) (.blk (
              .ite (.v 7) (.op (.bin .eql) [.cell (.v 47) 1, .c (.int .i64 (9))] <|
               .leaf 0) <|
              .leaf 1) [([.v 49], 0), ([.c (.bool false)], 0)] [.leaf 0]) <|
            .op (.bin .mul) [.c (.int .i64 (3)), .v 15] <|
            .call 44 [.v 5, .v 49] <|
            .call 46 [.node [.cell (.v 46) 0, .cell (.v 46) 1], .v 50] <|
            .op (.bin .mul) [.c (.int .i64 (3)), .v 15] <|
            .op (.bin .add) [.v 52, .c (.int .i64 (1))] <|
            .call 44 [.v 5, .v 53] <|
            .call 46 [.node [.cell (.v 46) 2, .cell (.v 46) 3], .v 54] <|
            .op (.bin .mul) [.v 51, .v 55] <|
            .op (.bin .add) [.v 13, .v 56] <|
            .op (.bin .mul) [.c (.int .i64 (3)), .v 15] <|
            .op (.bin .add) [.v 58, .c (.int .i64 (2))] <|
            .call 44 [.v 5, .v 59] <|
            .call 46 [.node [.cell (.v 46) 4, .cell (.v 46) 5], .v 60] <|
            .op (.bin .mul) [.v 51, .v 61] <|
            .op (.bin .add) [.v 14, .v 62] <|
            .call 41 [.node [.cell (.cell (.v 47) 0) 0], .v 57, .v 63] <|
            .flat (.v 64) <|
            .op (.un .not) [.v 64] <|
            .ite (.v 65) (.leaf 1) <|
            .leaf 2) <|
           .leaf 3
def tTAIL : T :=
  .shal 4 (.node [.v 20]) <|
       .call 41 [.node [.v 20], .v 13, .v 14] <|
       .flat (.v 22) <|
       .op (.un .not) [.v 22] <|
       .ite (.v 23) (.leaf 0) <|
       .shal 4 (.node [.v 20]) <|
       .call 19 [.node [.v 20]] <|
       .flat (.cell (.cell (.v 24) 0) 0) <|
       .flat (.cell (.cell (.v 24) 0) 1) <|
       .flat (.cell (.cell (.v 24) 1) 0) <|
       .flat (.cell (.cell (.v 24) 1) 1) <|
       .flat (.cell (.v 24) 2) <|
       .blk ( tBD) [([.c (.bool true)], 0), ([.c (.bool true)], 0), ([.c (.bool true)], 0), ([.c (.bool true)], 0), ([.v 29], 0)] [.ite (.v 25) (.leaf 1) <|
        .call 44 [.v 5, .v 15] <|
        .op (.bin .rem) [.v 26, .c (.int .u32 (100))] <|
        .op (.conv .i64) [.v 27] <|
        .op (.bin .add) [.v 13, .v 28] <|
        .op (.mx false) [.v 29, .c (.int .i64 (10000000))] <|
        .op (.mx true) [.v 30, .c (.int .i64 (-10000000))] <|
        .op (.mx false) [.v 14, .c (.int .i64 (10000000))] <|
        .op (.mx true) [.v 32, .c (.int .i64 (-10000000))] <|
        .shal 4 (.node [.v 20]) <|
        .call 20 [.node [.v 20], .v 31, .v 33, .v 6] <|
        .flat (.cell (.v 34) 0) <|
        .flat (.cell (.v 34) 1) <|
        .op (.bin .sub) [.v 31, .v 13] <|
        .op (.bin .sub) [.v 13, .v 31] <|
        .op (.bin .sub) [.v 33, .v 14] <|
        .op (.bin .sub) [.v 14, .v 33] <|
        .op (.mx true) [.v 35, .v 36, .v 37, .v 38] <|
        .op (.bin .leq) [.v 39, .v 6] <|
        .blk ( tNR) [([.c (.bool true)], 0), ([.c (.bool true)], 0), ([.v 40], 0), ([.c (.bool false)], 0), ([.v 40], 0), ([.c (.bool false)], 0)] [.ite (.v 41) (.leaf 2) <|
         .shal 4 (.node [.v 20]) <|
         .call 26 [.node [.v 20], .v 21] <|
         .flat (.cell (.v 42) 1) <|
         .shal 1 (.cell (.v 42) 0) <|
         .op (.bin .neq) [.cell (.v 42) 1, .c (.int .i64 (6))] <|
         .ite (.v 43) (.leaf 3) <|
         .blk ( tT0) [([.v 48], 0), ([.c (.bool false)], 0)] [.blk ( tT1) [([.v 49], 0), ([.c (.bool false)], 0), ([.v 57, .v 63, .cell (.cell (.v 47) 0) 0, .c (.list [])], 1), ([.v 13, .v 14, .v 20, .v 21], 1)] [.leaf 4,
           .leaf 5]]]]
theorem F7_eq : F7 = ⟨[(some 1), none, none, none, none, none, none],
 .call 14 [] <|
 .op (.un .not) [.v 7] <|
 .ite (.v 8) (.leaf 0) <|
 .blk (
  .call 34 [.node [.cell (.v 0) 0]] <|
  .op (.bin .neq) [.v 9, .c (.int .i64 (0))] <|
  .ite (.v 10) (.leaf 0) <|
  .call 40 [.v 1, .v 2] <|
  .op (.un .not) [.v 11] <|
  .ite (.v 12) (.leaf 1) <|
  .call 41 [.node [.cell (.v 0) 0], .v 1, .v 2] <|
  .op (.un .not) [.v 13] <|
  .ite (.v 14) (.leaf 2) <|
  .op .len [.v 3] <|
  .op (.bin .gtr) [.v 15, .c (.int .i64 (10))] <|
  .ite (.v 16) (.leaf 3) <|
  .op .len [.v 4] <|
  .op (.bin .gtr) [.v 17, .c (.int .i64 (60))] <|
  .ite (.v 18) (.leaf 4) <|
  .op (.bin .lss) [.v 6, .c (.int .i64 (0))] <|
  .ite (.v 19) (.leaf 5) <|
  .op (.bin .gtr) [.v 6, .c (.int .i64 (10000000))] <|
  .leaf 6) [([.c (.bool true)], 0), ([.c (.bool true)], 0), ([.c (.bool true)], 0), ([.c (.bool true)], 0), ([.c (.bool true)], 0), ([.c (.bool true)], 0), ([.v 20], 0)] [.ite (.v 9) (.leaf 1) <|
  .op .len [.v 3] <|
  .op .len [.v 4] <|
  .op (.mx true) [.v 10, .v 11] <|
  .loop [.v 1, .v 2, .c (.int .i64 (0)), .cell (.v 0) 0, .c (.list [])] (
   .op (.bin .lss) [.v 15, .v 12] <|
   .ite (.v 18) (.blk (
     .blk ( tA0) [([.v 26], 0), ([.c (.bool false)], 0), ([.c (.bool false)], 0)] [.blk ( tA1) [([.v 28, .v 23], 0), ([], 1), ([.v 16, .v 17], 0)] [tTAIL,
       .leaf 6]]) [([.c (.bool false)], 0), ([.c (.bool false)], 0), ([.c (.bool false)], 0), ([.c (.bool false)], 0), ([.v 45], 0), ([.v 45, .v 46, .v 47, .v 48], 1), ([.c (.bool false)], 0)] [.leaf 0,
     .op (.bin .add) [.v 15, .c (.int .i64 (1))] <|
     .leaf 1]) <|
   .leaf 2) [([.v 19], some 0), ([.v 19, .v 20, .v 23, .v 21, .v 22], none), ([], some 1)] [.leaf 2,
   .leaf 3]],
 [.c (.bool false), .v 7, .v 13, .v 7], .e⟩ := rfl
end Go.Q
