/- The functions as trees. -/
import Derived.Test.YtiailejekbnkgaaGreatJL
import Derived.Test.YtiailejekbnkgaaGreatChecked
set_option linter.unusedVariables false
set_option maxRecDepth 100000
namespace Go.Q
open Go.V
open Go.Proofs.Tryz (prog)
def isRef (f : FuncId) : Bool := [].contains f
def dmR (f : FuncId) : Nat := ([((0 : FuncId), 0)].find? (·.1 == f)).elim 0 (·.2)
noncomputable def TP : FuncId → Option IFn := fun f => cFnD prog (isRef f) (dmR f) f
theorem cFn_ref {P : Program} {b : Bool} {dm : Nat} {f : FuncId} {fn : IFn} (h : cFnD P b dm f = some fn) : fn.byref = b ∧ fn.dm = dm := by
  unfold cFnD at h
  split at h
  · cases h
  · split at h
    · cases h
    · split at h
      · cases h
      · split at h
        · cases h; exact ⟨rfl, rfl⟩
        · cases h
theorem TP_ok : TOK prog TP := fun f fn h => by
  obtain ⟨h1, h2⟩ := cFn_ref h
  rw [h1, h2]; exact h
theorem mixed : prog.follows .mixedOrders = true := by kernel_rfl
def F3 : Fn := ⟨[(some 11), none],
 .call 9 [] <|
 .blk (
  .call 10 [.node [.cell (.v 0) 0, .cell (.v 0) 1, .cell (.v 0) 2, .cell (.v 0) 3, .cell (.v 0) 4, .cell (.v 0) 5, .cell (.v 0) 6, .cell (.v 0) 7, .cell (.v 0) 8, .cell (.v 0) 9, .cell (.v 0) 10]] <|
  .op (.un .not) [.v 3] <|
  .ite (.v 4) (.leaf 0) <|
  .op (.un .not) [.v 2] <|
  .leaf 1) [([.c (.bool true)], 0), ([.v 5], 0)] [.ite (.v 3) (.leaf 0) <|
  .call 11 [.node [.cell (.v 0) 0, .cell (.v 0) 1, .cell (.v 0) 2, .cell (.v 0) 3, .cell (.v 0) 4, .cell (.v 0) 5, .cell (.v 0) 6, .cell (.v 0) 7, .cell (.v 0) 8, .cell (.v 0) 9, .cell (.v 0) 10]] <|
  .blk (
   .op (.bin .neq) [.cell (.v 4) 3, .c (.int .i64 (0))] <|
   .ite (.v 5) (.leaf 0) <|
   .op (.bin .lss) [.cell (.cell (.v 4) 0) 0, .c (.int .i64 (0))] <|
   .ite (.v 6) (.leaf 1) <|
   .op (.bin .gtr) [.cell (.cell (.v 4) 0) 0, .cell (.cell (.v 4) 0) 1] <|
   .ite (.v 7) (.leaf 2) <|
   .op (.bin .gtr) [.cell (.cell (.v 4) 0) 1, .cell (.v 0) 2] <|
   .ite (.v 8) (.leaf 3) <|
   .op (.bin .lss) [.cell (.cell (.v 4) 1) 0, .c (.int .i64 (0))] <|
   .ite (.v 9) (.leaf 4) <|
   .op (.bin .gtr) [.cell (.cell (.v 4) 1) 0, .cell (.cell (.v 4) 1) 1] <|
   .ite (.v 10) (.leaf 5) <|
   .op (.bin .gtr) [.cell (.cell (.v 4) 1) 1, .cell (.v 0) 2] <|
   .leaf 6) [([.c (.bool true)], 0), ([.c (.bool true)], 0), ([.c (.bool true)], 0), ([.c (.bool true)], 0), ([.c (.bool true)], 0), ([.c (.bool true)], 0), ([.v 11], 0)] [.ite (.v 5) (.leaf 1) <|
   .call 12 [.node [.cell (.v 0) 0, .cell (.v 0) 1, .cell (.v 0) 2, .cell (.v 0) 3, .cell (.v 0) 4, .cell (.v 0) 5, .cell (.v 0) 6, .cell (.v 0) 7, .cell (.v 0) 8, .cell (.v 0) 9, .cell (.v 0) 10], .v 1, .c (.int .i64 (0))] <|
   .blk (
    .op (.bin .mul) [.c (.int .i64 (1000)), .cell (.cell (.v 4) 0) 0] <|
    .op (.bin .sub) [.cell (.v 6) 0, .cell (.v 6) 1] <|
    .op (.bin .gtr) [.v 7, .v 8] <|
    .ite (.v 9) (.leaf 0) <|
    .op (.bin .mul) [.c (.int .i64 (1000)), .cell (.cell (.v 4) 0) 1] <|
    .op (.bin .sub) [.cell (.v 6) 0, .cell (.v 6) 1] <|
    .op (.bin .lss) [.v 10, .v 11] <|
    .ite (.v 12) (.leaf 1) <|
    .op (.bin .mul) [.c (.int .i64 (1000)), .cell (.cell (.v 4) 1) 0] <|
    .op (.bin .gtr) [.v 13, .cell (.v 6) 1] <|
    .ite (.v 14) (.leaf 2) <|
    .op (.bin .mul) [.c (.int .i64 (1000)), .cell (.cell (.v 4) 1) 1] <|
    .op (.bin .lss) [.v 15, .cell (.v 6) 1] <|
    .leaf 3) [([.c (.bool true)], 0), ([.c (.bool true)], 0), ([.c (.bool true)], 0), ([.v 16], 0)] [.ite (.v 7) (.leaf 2) <|
    .blk (
     .op (.bin .eql) [.cell (.v 0) 0, .c (.int .u8 (1))] <|
     .ite (.v 8) (.call 14 [.v 1, .c (.int .i64 (1))] <|
      .call 13 [.node [.cell (.v 0) 3, .cell (.v 0) 4], .v 9] <|
      .op (.bin .geq) [.cell (.v 0) 9, .v 10] <|
      .leaf 0) <|
     .leaf 1) [([.v 11], 0), ([.c (.bool false)], 0)] [.blk (
      .ite (.v 2) (.op (.bin .leq) [.cell (.v 4) 2, .c (.int .u8 (2))] <|
       .ite (.v 9) (.op (.bin .neq) [.cell (.v 4) 2, .c (.int .u8 (2))] <|
        .ite (.v 10) (.op (.bin .neq) [.cell (.v 4) 2, .c (.int .u8 (0))] <|
         .ite (.v 11) (.leaf 0) <|
         .op (.un .not) [.v 8] <|
         .leaf 1) <|
        .ite (.v 8) (.op (.bin .neq) [.cell (.v 4) 2, .c (.int .u8 (0))] <|
         .ite (.v 11) (.leaf 2) <|
         .op (.un .not) [.v 8] <|
         .leaf 3) <|
        .leaf 4) <|
       .leaf 5) <|
      .leaf 6) [([.c (.bool true)], 0), ([.v 12], 0), ([.c (.bool true)], 0), ([.v 12], 0), ([.c (.bool false)], 0), ([.c (.bool false)], 0), ([.c (.bool false)], 0)] [.leaf 3]]]]],
 [.v 2, .c (.bool false), .c (.bool false), .v 9], .e⟩
def F9 : Fn := ⟨[],
 .leaf 0,
 [.c (.bool true)], .e⟩
def F10 : Fn := ⟨[(some 11)],
 .blk (
  .call 39 [.node [.cell (.v 0) 1, .cell (.v 0) 2], .c (.int .i64 (0)), .c (.int .i64 (1000000))] <|
  .op (.un .not) [.v 1] <|
  .ite (.v 2) (.leaf 0) <|
  .call 40 [.cell (.v 0) 9, .c (.int .i64 (0)), .c (.int .i64 (6000000))] <|
  .op (.un .not) [.v 3] <|
  .ite (.v 4) (.leaf 1) <|
  .call 40 [.cell (.v 0) 10, .c (.int .i64 (0)), .c (.int .i64 (100000))] <|
  .op (.un .not) [.v 5] <|
  .leaf 2) [([.c (.bool true)], 0), ([.c (.bool true)], 0), ([.v 6], 0)] [.ite (.v 1) (.leaf 0) <|
  .op (.bin .eql) [.cell (.v 0) 0, .c (.int .u8 (1))] <|
  .ite (.v 2) (.blk (
    .call 39 [.node [.cell (.v 0) 3, .cell (.v 0) 4], .c (.int .i64 (1)), .c (.int .i64 (100000))] <|
    .ite (.v 3) (.call 39 [.node [.cell (.v 0) 5, .cell (.v 0) 6], .c (.int .i64 (0)), .c (.int .i64 (1000))] <|
     .ite (.v 4) (.op (.eqv false [false, false]) [.cell (.v 0) 7, .cell (.v 0) 8, .c (.int .i64 (0)), .c (.int .i64 (0))] <|
      .leaf 0) <|
     .leaf 1) <|
    .leaf 2) [([.v 5], 0), ([.c (.bool false)], 0), ([.c (.bool false)], 0)] [.leaf 1]) <|
  .op (.bin .eql) [.cell (.v 0) 0, .c (.int .u8 (2))] <|
  .ite (.v 3) (.blk (
    .op (.eqv false [false, false]) [.cell (.v 0) 3, .cell (.v 0) 4, .c (.int .i64 (0)), .c (.int .i64 (0))] <|
    .ite (.v 4) (.op (.eqv false [false, false]) [.cell (.v 0) 5, .cell (.v 0) 6, .c (.int .i64 (0)), .c (.int .i64 (0))] <|
     .ite (.v 5) (.op (.eqv false [false, false]) [.cell (.v 0) 7, .cell (.v 0) 8, .c (.int .i64 (0)), .c (.int .i64 (0))] <|
      .leaf 0) <|
     .leaf 1) <|
    .leaf 2) [([.v 6], 0), ([.c (.bool false)], 0), ([.c (.bool false)], 0)] [.leaf 2]) <|
  .blk (
   .op (.bin .eql) [.cell (.v 0) 0, .c (.int .u8 (3))] <|
   .ite (.v 4) (.op (.eqv false [false, false]) [.cell (.v 0) 3, .cell (.v 0) 4, .c (.int .i64 (0)), .c (.int .i64 (0))] <|
    .ite (.v 5) (.op (.eqv false [false, false]) [.cell (.v 0) 5, .cell (.v 0) 6, .c (.int .i64 (0)), .c (.int .i64 (0))] <|
     .ite (.v 6) (.call 39 [.node [.cell (.v 0) 7, .cell (.v 0) 8], .c (.int .i64 (0)), .c (.int .i64 (1000000))] <|
      .leaf 0) <|
     .leaf 1) <|
    .leaf 2) <|
   .leaf 3) [([.v 7], 0), ([.c (.bool false)], 0), ([.c (.bool false)], 0), ([.c (.bool false)], 0)] [.leaf 3]],
 [.c (.bool false), .v 3, .v 4, .v 4], .e⟩
def F11 : Fn := ⟨[(some 11)],
 .call 41 [.node [.cell (.v 0) 0, .cell (.v 0) 1, .cell (.v 0) 2, .cell (.v 0) 3, .cell (.v 0) 4, .cell (.v 0) 5, .cell (.v 0) 6, .cell (.v 0) 7, .cell (.v 0) 8, .cell (.v 0) 9, .cell (.v 0) 10]] <|
 .op (.un .not) [.v 1] <|
 .ite (.v 2) (.leaf 0) <|
 .call 42 [.node [.cell (.v 0) 0, .cell (.v 0) 1, .cell (.v 0) 2, .cell (.v 0) 3, .cell (.v 0) 4, .cell (.v 0) 5, .cell (.v 0) 6, .cell (.v 0) 7, .cell (.v 0) 8, .cell (.v 0) 9, .cell (.v 0) 10]] <|
 .call 43 [.node [.cell (.v 0) 0, .cell (.v 0) 1, .cell (.v 0) 2, .cell (.v 0) 3, .cell (.v 0) 4, .cell (.v 0) 5, .cell (.v 0) 6, .cell (.v 0) 7, .cell (.v 0) 8, .cell (.v 0) 9, .cell (.v 0) 10]] <|
 .leaf 1,
 [.node [.node [.c (.int .i64 (0)), .c (.int .i64 (0))], .node [.c (.int .i64 (0)), .c (.int .i64 (0))], .c (.int .u8 (0)), .c (.int .i64 (50))], .node [.node [.cell (.cell (.v 3) 0) 0, .cell (.cell (.v 3) 0) 1], .node [.cell (.cell (.v 3) 1) 0, .cell (.cell (.v 3) 1) 1], .v 4, .c (.int .i64 (0))]], .tup [.node [.e, .e], .node [.e, .e], .e, .e]⟩
def F12 : Fn := ⟨[(some 11), none, none],
 .call 14 [.v 1, .v 2] <|
 .call 13 [.node [.cell (.v 0) 1, .cell (.v 0) 2], .v 3] <|
 .op (.bin .mul) [.c (.int .i64 (1000)), .v 4] <|
 .op (.bin .eql) [.cell (.v 0) 0, .c (.int .u8 (1))] <|
 .blk (
  .ite (.v 6) (.op (.bin .add) [.v 2, .c (.int .i64 (1))] <|
   .call 14 [.v 1, .v 7] <|
   .call 13 [.node [.cell (.v 0) 3, .cell (.v 0) 4], .v 8] <|
   .op (.bin .geq) [.cell (.v 0) 9, .v 9] <|
   .blk (
    .ite (.v 10) (.op (.bin .quo) [.v 5, .c (.int .i64 (1000))] <|
     .op (.bin .add) [.v 2, .c (.int .i64 (2))] <|
     .call 14 [.v 1, .v 12] <|
     .call 13 [.node [.cell (.v 0) 5, .cell (.v 0) 6], .v 13] <|
     .op (.bin .mul) [.v 11, .v 14] <|
     .leaf 0) <|
    .leaf 1) [([.v 15], 0), ([.c (.int .i64 (0))], 0)] [.leaf 0]) <|
  .op (.bin .eql) [.cell (.v 0) 0, .c (.int .u8 (3))] <|
  .blk (
   .ite (.v 7) (.op (.bin .add) [.v 2, .c (.int .i64 (2))] <|
    .call 14 [.v 1, .v 8] <|
    .call 13 [.node [.cell (.v 0) 7, .cell (.v 0) 8], .v 9] <|
    .op (.bin .mul) [.c (.int .i64 (1000)), .v 10] <|
    .op (.bin .mul) [.v 11, .cell (.v 0) 10] <|
    .op (.mx false) [.v 5, .v 12] <|
    .leaf 0) <|
   .leaf 1) [([.v 13], 0), ([.c (.int .i64 (0))], 0)] [.leaf 1]) [([.v 11], 0), ([.v 8], 0)] [.leaf 0],
 [.node [.v 5, .v 7]], .tup [.e, .e]⟩
def F13 : Fn := ⟨[(some 2), none],
 .op (.conv .i64) [.v 1] <|
 .op (.bin .sub) [.cell (.v 0) 1, .cell (.v 0) 0] <|
 .op (.bin .add) [.v 3, .c (.int .i64 (1))] <|
 .op (.bin .rem) [.v 2, .v 4] <|
 .op (.bin .add) [.cell (.v 0) 0, .v 5] <|
 .leaf 0,
 [.v 6], .e⟩
def F14 : Fn := ⟨[none, none],
 .op .len [.v 0] <|
 .op (.bin .lss) [.v 1, .v 2] <|
 .ite (.v 3) (.op (.idx 1) [.v 0, .v 1] <|
  .op (.elem 0 none) [.v 0, .v 1] <|
  .leaf 0) <|
 .leaf 1,
 [.v 5, .c (.int .u32 (0))], .e⟩
def F39 : Fn := ⟨[(some 2), none, none],
 .blk (
  .op (.bin .geq) [.cell (.v 0) 0, .v 1] <|
  .ite (.v 3) (.op (.bin .leq) [.cell (.v 0) 0, .cell (.v 0) 1] <|
   .ite (.v 4) (.op (.bin .leq) [.cell (.v 0) 1, .v 2] <|
    .leaf 0) <|
   .leaf 1) <|
  .leaf 2) [([.v 5], 0), ([.c (.bool false)], 0), ([.c (.bool false)], 0)] [.leaf 0],
 [.v 3], .e⟩
def F40 : Fn := ⟨[none, none, none],
 .blk (
  .op (.bin .geq) [.v 0, .v 1] <|
  .ite (.v 3) (.op (.bin .leq) [.v 0, .v 2] <|
   .leaf 0) <|
  .leaf 1) [([.v 4], 0), ([.c (.bool false)], 0)] [.leaf 0],
 [.v 3], .e⟩
def F41 : Fn := ⟨[(some 11)],
 .call 98 [] <|
 .op (.isKd .u8 1) [.cell (.v 0) 0] <|
 .ite (.v 2) (.blk (
   .call 141 [.node [.cell (.v 0) 0, .cell (.v 0) 1, .cell (.v 0) 2, .cell (.v 0) 3, .cell (.v 0) 4, .cell (.v 0) 5, .cell (.v 0) 6, .cell (.v 0) 7, .cell (.v 0) 8, .cell (.v 0) 9, .cell (.v 0) 10]] <|
   .ite (.v 3) (.call 99 [.node [.cell (.v 0) 1, .cell (.v 0) 2], .c (.int .i64 (0)), .c (.int .i64 (1000000))] <|
    .ite (.v 4) (.call 51 [.cell (.v 0) 9, .c (.int .i64 (0)), .c (.int .i64 (6000000))] <|
     .ite (.v 5) (.call 51 [.cell (.v 0) 10, .c (.int .i64 (0)), .c (.int .i64 (100000))] <|
      .leaf 0) <|
     .leaf 1) <|
    .leaf 2) <|
   .leaf 3) [([.v 6], 0), ([.c (.bool false)], 0), ([.c (.bool false)], 0), ([.c (.bool false)], 0)] [.leaf 0]) <|
 .op (.isKd .u8 2) [.cell (.v 0) 0] <|
 .ite (.v 3) (.blk (
   .call 143 [.node [.cell (.v 0) 0, .cell (.v 0) 1, .cell (.v 0) 2, .cell (.v 0) 3, .cell (.v 0) 4, .cell (.v 0) 5, .cell (.v 0) 6, .cell (.v 0) 7, .cell (.v 0) 8, .cell (.v 0) 9, .cell (.v 0) 10]] <|
   .ite (.v 4) (.call 99 [.node [.cell (.v 0) 1, .cell (.v 0) 2], .c (.int .i64 (0)), .c (.int .i64 (1000000))] <|
    .ite (.v 5) (.call 51 [.cell (.v 0) 9, .c (.int .i64 (0)), .c (.int .i64 (6000000))] <|
     .ite (.v 6) (.call 51 [.cell (.v 0) 10, .c (.int .i64 (0)), .c (.int .i64 (100000))] <|
      .leaf 0) <|
     .leaf 1) <|
    .leaf 2) <|
   .leaf 3) [([.v 7], 0), ([.c (.bool false)], 0), ([.c (.bool false)], 0), ([.c (.bool false)], 0)] [.leaf 1]) <|
 .op (.isKd .u8 3) [.cell (.v 0) 0] <|
 .ite (.v 4) (.blk (
   .call 145 [.node [.cell (.v 0) 0, .cell (.v 0) 1, .cell (.v 0) 2, .cell (.v 0) 3, .cell (.v 0) 4, .cell (.v 0) 5, .cell (.v 0) 6, .cell (.v 0) 7, .cell (.v 0) 8, .cell (.v 0) 9, .cell (.v 0) 10]] <|
   .ite (.v 5) (.call 99 [.node [.cell (.v 0) 1, .cell (.v 0) 2], .c (.int .i64 (0)), .c (.int .i64 (1000000))] <|
    .ite (.v 6) (.call 51 [.cell (.v 0) 9, .c (.int .i64 (0)), .c (.int .i64 (6000000))] <|
     .ite (.v 7) (.call 51 [.cell (.v 0) 10, .c (.int .i64 (0)), .c (.int .i64 (100000))] <|
      .leaf 0) <|
     .leaf 1) <|
    .leaf 2) <|
   .leaf 3) [([.v 8], 0), ([.c (.bool false)], 0), ([.c (.bool false)], 0), ([.c (.bool false)], 0)] [.leaf 2]) <|
 .leaf 3,
 [.v 3, .v 4, .v 5, .c (.bool false)], .e⟩
def F42 : Fn := ⟨[(some 11)],
 .call 98 [] <|
 .op (.isKd .u8 1) [.cell (.v 0) 0] <|
 .ite (.v 2) (.call 142 [.node [.cell (.v 0) 0, .cell (.v 0) 1, .cell (.v 0) 2, .cell (.v 0) 3, .cell (.v 0) 4, .cell (.v 0) 5, .cell (.v 0) 6, .cell (.v 0) 7, .cell (.v 0) 8, .cell (.v 0) 9, .cell (.v 0) 10], .cell (.v 0) 1] <|
  .call 142 [.node [.cell (.v 0) 0, .cell (.v 0) 1, .cell (.v 0) 2, .cell (.v 0) 3, .cell (.v 0) 4, .cell (.v 0) 5, .cell (.v 0) 6, .cell (.v 0) 7, .cell (.v 0) 8, .cell (.v 0) 9, .cell (.v 0) 10], .cell (.v 0) 2] <|
  .op (.bin .sub) [.cell (.v 0) 1, .cell (.v 3) 1] <|
  .op (.bin .sub) [.cell (.v 0) 2, .cell (.v 4) 0] <|
  .leaf 0) <|
 .op (.isKd .u8 2) [.cell (.v 0) 0] <|
 .ite (.v 3) (.call 144 [.node [.cell (.v 0) 0, .cell (.v 0) 1, .cell (.v 0) 2, .cell (.v 0) 3, .cell (.v 0) 4, .cell (.v 0) 5, .cell (.v 0) 6, .cell (.v 0) 7, .cell (.v 0) 8, .cell (.v 0) 9, .cell (.v 0) 10], .cell (.v 0) 1] <|
  .call 144 [.node [.cell (.v 0) 0, .cell (.v 0) 1, .cell (.v 0) 2, .cell (.v 0) 3, .cell (.v 0) 4, .cell (.v 0) 5, .cell (.v 0) 6, .cell (.v 0) 7, .cell (.v 0) 8, .cell (.v 0) 9, .cell (.v 0) 10], .cell (.v 0) 2] <|
  .op (.bin .sub) [.cell (.v 0) 1, .cell (.v 4) 1] <|
  .op (.bin .sub) [.cell (.v 0) 2, .cell (.v 5) 0] <|
  .leaf 1) <|
 .op (.isKd .u8 3) [.cell (.v 0) 0] <|
 .ite (.v 4) (.call 146 [.node [.cell (.v 0) 0, .cell (.v 0) 1, .cell (.v 0) 2, .cell (.v 0) 3, .cell (.v 0) 4, .cell (.v 0) 5, .cell (.v 0) 6, .cell (.v 0) 7, .cell (.v 0) 8, .cell (.v 0) 9, .cell (.v 0) 10], .cell (.v 0) 1] <|
  .call 146 [.node [.cell (.v 0) 0, .cell (.v 0) 1, .cell (.v 0) 2, .cell (.v 0) 3, .cell (.v 0) 4, .cell (.v 0) 5, .cell (.v 0) 6, .cell (.v 0) 7, .cell (.v 0) 8, .cell (.v 0) 9, .cell (.v 0) 10], .cell (.v 0) 2] <|
  .op (.bin .sub) [.cell (.v 0) 1, .cell (.v 5) 1] <|
  .op (.bin .sub) [.cell (.v 0) 2, .cell (.v 6) 0] <|
  .leaf 2) <|
 .fail,
 [.node [.node [.v 5, .v 6], .node [.cell (.v 3) 0, .cell (.v 4) 1]], .node [.node [.v 6, .v 7], .node [.cell (.v 4) 0, .cell (.v 5) 1]], .node [.node [.v 7, .v 8], .node [.cell (.v 5) 0, .cell (.v 6) 1]]], .tup [.node [.e, .e], .node [.e, .e]]⟩
def F43 : Fn := ⟨[(some 11)],
 .blk (
  .op (.bin .neq) [.cell (.v 0) 0, .c (.int .u8 (1))] <|
  .ite (.v 1) (.leaf 0) <|
  .op (.bin .lss) [.cell (.v 0) 9, .cell (.v 0) 3] <|
  .leaf 1) [([.c (.bool true)], 0), ([.v 2], 0)] [.blk (
   .ite (.v 1) (.leaf 0) <|
   .op (.bin .lss) [.cell (.v 0) 9, .cell (.v 0) 4] <|
   .ite (.v 2) (.leaf 1) <|
   .leaf 2) [([.c (.int .u8 (0))], 0), ([.c (.int .u8 (1))], 0), ([], 1)] [.leaf 0,
   .leaf 1]],
 [.v 2, .c (.int .u8 (2))], .e⟩
def F51 : Fn := ⟨[none, none, none],
 .blk (
  .op (.bin .leq) [.v 1, .v 0] <|
  .ite (.v 3) (.op (.bin .leq) [.v 0, .v 2] <|
   .leaf 0) <|
  .leaf 1) [([.v 4], 0), ([.c (.bool false)], 0)] [.leaf 0],
 [.v 3], .e⟩
def F98 : Fn := ⟨[],
 .leaf 0,
 [.c (.node [])], .km [.int .u8 (1), .int .u8 (2), .int .u8 (3)] [.agg [.fn 141 [] [], .fn 142 [] []], .agg [.fn 143 [] [], .fn 144 [] []], .agg [.fn 145 [] [], .fn 146 [] []]]⟩
def F99 : Fn := ⟨[(some 2), none, none],
 .blk (
  .op (.bin .leq) [.v 1, .cell (.v 0) 0] <|
  .ite (.v 3) (.op (.bin .leq) [.cell (.v 0) 0, .cell (.v 0) 1] <|
   .ite (.v 4) (.op (.bin .leq) [.cell (.v 0) 1, .v 2] <|
    .leaf 0) <|
   .leaf 1) <|
  .leaf 2) [([.v 5], 0), ([.c (.bool false)], 0), ([.c (.bool false)], 0)] [.leaf 0],
 [.v 3], .e⟩
def F141 : Fn := ⟨[(some 11)],
 .blk (
  .call 99 [.node [.cell (.v 0) 3, .cell (.v 0) 4], .c (.int .i64 (1)), .c (.int .i64 (100000))] <|
  .ite (.v 1) (.call 99 [.node [.cell (.v 0) 5, .cell (.v 0) 6], .c (.int .i64 (0)), .c (.int .i64 (1000))] <|
   .ite (.v 2) (.op (.eqv false [false, false]) [.cell (.v 0) 7, .cell (.v 0) 8, .c (.int .i64 (0)), .c (.int .i64 (0))] <|
    .leaf 0) <|
   .leaf 1) <|
  .leaf 2) [([.v 3], 0), ([.c (.bool false)], 0), ([.c (.bool false)], 0)] [.leaf 0],
 [.v 1], .e⟩
def F142 : Fn := ⟨[(some 11), none],
 .op (.bin .mul) [.v 1, .cell (.v 0) 5] <|
 .op (.bin .quo) [.v 2, .c (.int .i64 (1000))] <|
 .op (.bin .mul) [.v 1, .cell (.v 0) 6] <|
 .op (.bin .add) [.v 4, .c (.int .i64 (1000))] <|
 .op (.bin .sub) [.v 5, .c (.int .i64 (1))] <|
 .op (.bin .quo) [.v 6, .c (.int .i64 (1000))] <|
 .call 43 [.node [.cell (.v 0) 0, .cell (.v 0) 1, .cell (.v 0) 2, .cell (.v 0) 3, .cell (.v 0) 4, .cell (.v 0) 5, .cell (.v 0) 6, .cell (.v 0) 7, .cell (.v 0) 8, .cell (.v 0) 9, .cell (.v 0) 10]] <|
 .op (.bin .eql) [.v 8, .c (.int .u8 (0))] <|
 .ite (.v 9) (.leaf 0) <|
 .op (.bin .eql) [.v 8, .c (.int .u8 (1))] <|
 .blk (
  .ite (.v 10) (.leaf 0) <|
  .leaf 1) [([.c (.int .i64 (0))], 0), ([.v 3], 0)] [.leaf 1],
 [.node [.c (.int .i64 (0)), .c (.int .i64 (0))], .node [.v 11, .v 7]], .node [.e, .e]⟩
def F143 : Fn := ⟨[(some 11)],
 .blk (
  .op (.eqv false [false, false]) [.cell (.v 0) 3, .cell (.v 0) 4, .c (.int .i64 (0)), .c (.int .i64 (0))] <|
  .ite (.v 1) (.op (.eqv false [false, false]) [.cell (.v 0) 5, .cell (.v 0) 6, .c (.int .i64 (0)), .c (.int .i64 (0))] <|
   .ite (.v 2) (.op (.eqv false [false, false]) [.cell (.v 0) 7, .cell (.v 0) 8, .c (.int .i64 (0)), .c (.int .i64 (0))] <|
    .leaf 0) <|
   .leaf 1) <|
  .leaf 2) [([.v 3], 0), ([.c (.bool false)], 0), ([.c (.bool false)], 0)] [.leaf 0],
 [.v 1], .e⟩
def F144 : Fn := ⟨[(some 11), none],
 .leaf 0,
 [.node [.c (.int .i64 (0)), .c (.int .i64 (0))]], .node [.e, .e]⟩
def F145 : Fn := ⟨[(some 11)],
 .blk (
  .op (.eqv false [false, false]) [.cell (.v 0) 3, .cell (.v 0) 4, .c (.int .i64 (0)), .c (.int .i64 (0))] <|
  .ite (.v 1) (.op (.eqv false [false, false]) [.cell (.v 0) 5, .cell (.v 0) 6, .c (.int .i64 (0)), .c (.int .i64 (0))] <|
   .ite (.v 2) (.call 99 [.node [.cell (.v 0) 7, .cell (.v 0) 8], .c (.int .i64 (0)), .c (.int .i64 (1000000))] <|
    .leaf 0) <|
   .leaf 1) <|
  .leaf 2) [([.v 3], 0), ([.c (.bool false)], 0), ([.c (.bool false)], 0)] [.leaf 0],
 [.v 1], .e⟩
def F146 : Fn := ⟨[(some 11), none],
 .op (.bin .mul) [.cell (.v 0) 10, .cell (.v 0) 7] <|
 .op (.mx false) [.v 1, .v 2] <|
 .op (.bin .mul) [.cell (.v 0) 10, .cell (.v 0) 8] <|
 .op (.mx false) [.v 1, .v 4] <|
 .leaf 0,
 [.node [.v 3, .v 5]], .node [.e, .e]⟩
def FN (f : FuncId) : Option Fn :=
  match f with
  | 3 => some F3
  | 9 => some F9
  | 10 => some F10
  | 11 => some F11
  | 12 => some F12
  | 13 => some F13
  | 14 => some F14
  | 39 => some F39
  | 40 => some F40
  | 41 => some F41
  | 42 => some F42
  | 43 => some F43
  | 51 => some F51
  | 98 => some F98
  | 99 => some F99
  | 141 => some F141
  | 142 => some F142
  | 143 => some F143
  | 144 => some F144
  | 145 => some F145
  | 146 => some F146
  | _ => none
end Go.Q
