/- Wells are landmarks: what is seen keeps the place. -/
import Derived.Test.YtpdnchpjolkcfaaKt0
set_option linter.unusedVariables false
set_option linter.unusedSimpArgs false
set_option maxRecDepth 100000
namespace Go.Q
open Go.V
def b4 : T := .op (.bin .eql) [.v 35, .c (.int .i64 (0))] <|
      .ite (.v 37) (.op (.bin .eql) [.v 36, .c (.int .i64 (0))] <|
       .ite (.v 38) (.leaf 0) <|
       .op (.un .neg) [.v 35] <|
       .op (.un .neg) [.v 36] <|
       .op (.mx true) [.v 35, .v 39, .v 36, .v 40] <|
       .op (.bin .gtr) [.v 41, .c (.int .i64 (400))] <|
       .leaf 1) <|
      .op (.un .neg) [.v 35] <|
      .op (.un .neg) [.v 36] <|
      .op (.mx true) [.v 35, .v 38, .v 36, .v 39] <|
      .op (.bin .gtr) [.v 40, .c (.int .i64 (400))] <|
      .leaf 2
def c4 : T := .op (.bin .mul) [.v 45, .v 57] <|
       .op (.bin .mul) [.v 49, .v 53] <|
       .op (.bin .sub) [.v 58, .v 59] <|
       .op (.bin .leq) [.v 60, .c (.int .i64 (0))] <|
       .ite (.v 61) (.leaf 0) <|
       .op (.bin .mul) [.v 45, .v 36] <|
       .op (.bin .mul) [.v 49, .v 35] <|
       .op (.bin .sub) [.v 62, .v 63] <|
       .op (.bin .lss) [.v 64, .c (.int .i64 (0))] <|
       .ite (.v 65) (.leaf 1) <|
       .op (.bin .mul) [.v 35, .v 57] <|
       .op (.bin .mul) [.v 36, .v 53] <|
       .op (.bin .sub) [.v 66, .v 67] <|
       .op (.bin .lss) [.v 68, .c (.int .i64 (0))] <|
       .ite (.v 69) (.leaf 2) <|
       .op (.un .neg) [.v 45] <|
       .op (.un .neg) [.v 49] <|
       .op (.un .neg) [.v 53] <|
       .op (.un .neg) [.v 57] <|
       .op (.mx true) [.v 45, .v 70, .v 49, .v 71, .v 53, .v 72, .v 57, .v 73] <|
       .op (.bin .gtr) [.v 74, .c (.int .i64 (1000))] <|
       .leaf 3
def d4 : T := .call 24 [.node [.v 26], .node [.c (.int .u8 (1)), .cell (.v 34) 0, .cell (.v 34) 1, .v 45, .v 49, .v 53, .v 57, .c (.int .i64 (0)), .c (.int .i64 (0)), .c (.int .i64 (0))]] <|
       .flat (.cell (.v 59) 1) <|
       .shal 1 (.cell (.cell (.v 59) 0) 0) <|
       .op (.bin .eql) [.cell (.v 59) 1, .c (.int .i64 (9))] <|
       .ite (.v 60) (.leaf 2) <|
       .blk (
        .op (.bin .neq) [.cell (.v 59) 1, .c (.int .i64 (0))] <|
        .ite (.v 61) (.leaf 0) <|
        .call 25 [.node [.cell (.cell (.v 59) 0) 0], .cell (.v 11) 0, .cell (.v 11) 1] <|
        .flat (.v 62) <|
        .op (.un .not) [.v 62] <|
        .leaf 1) [([.c (.bool true)], 0), ([.v 63], 0)] [.ite (.v 61) (.leaf 3) <|
        .leaf 4]
def t4 : T := .call 23 [.v 3, .v 25] <|
      .op (.bin .rem) [.v 38, .c (.int .u32 (2))] <|
      .op (.conv .i64) [.v 39] <|
      .op (.bin .add) [.c (.int .i64 (1)), .v 40] <|
      .op (.bin .mul) [.c (.int .i64 (2)), .v 35] <|
      .op (.bin .mul) [.v 36, .v 41] <|
      .op (.bin .quo) [.v 43, .c (.int .i64 (2))] <|
      .op (.bin .add) [.v 42, .v 44] <|
      .op (.bin .mul) [.c (.int .i64 (2)), .v 36] <|
      .op (.bin .mul) [.v 35, .v 41] <|
      .op (.bin .quo) [.v 47, .c (.int .i64 (2))] <|
      .op (.bin .sub) [.v 46, .v 48] <|
      .op (.bin .mul) [.c (.int .i64 (2)), .v 35] <|
      .op (.bin .mul) [.v 36, .v 41] <|
      .op (.bin .quo) [.v 51, .c (.int .i64 (2))] <|
      .op (.bin .sub) [.v 50, .v 52] <|
      .op (.bin .mul) [.c (.int .i64 (2)), .v 36] <|
      .op (.bin .mul) [.v 35, .v 41] <|
      .op (.bin .quo) [.v 55, .c (.int .i64 (2))] <|
      .op (.bin .add) [.v 54, .v 56] <|
      .blk c4 [([.c (.bool true)], 0), ([.c (.bool true)], 0), ([.c (.bool true)], 0), ([.v 75], 0)] [.ite (.v 58) (.leaf 1) <|
       d4]
def l4 : T := .op (.bin .lss) [.v 25, .v 24] <|
   .ite (.v 27) (.blk (
     .op (.idx 1) [.v 2, .v 25] <|
     .op (.elem 0 none) [.v 2, .v 25] <|
     .op (.conv .i64) [.v 29] <|
     .op .len [.cell (.v 0) 0] <|
     .op (.bin .rem) [.v 30, .v 31] <|
     .op (.idx 9) [.cell (.v 0) 0, .v 32] <|
     .op (.elem 0 (some 9)) [.cell (.v 0) 0, .v 32] <|
     .op (.bin .sub) [.cell (.v 34) 0, .cell (.v 11) 0] <|
     .op (.bin .sub) [.cell (.v 34) 1, .cell (.v 11) 1] <|
     .blk b4 [([.c (.bool true)], 0), ([.v 42], 0), ([.v 41], 0)] [.ite (.v 37) (.leaf 0) <|
      t4]) [([.v 26], 0), ([.v 26], 0), ([], 1), ([], 2), ([.cell (.cell (.v 59) 0) 0], 0)] [.op (.bin .add) [.v 25, .c (.int .i64 (1))] <|
     .leaf 0,
     .leaf 1,
     .leaf 2]) <|
   .leaf 3
def e4t : T := .call 26 [.node [.v 25]] <|
   .flat (.cell (.cell (.v 26) 0) 0) <|
   .flat (.cell (.cell (.v 26) 0) 1) <|
   .flat (.cell (.cell (.v 26) 1) 0) <|
   .flat (.cell (.cell (.v 26) 1) 1) <|
   .flat (.cell (.v 26) 2) <|
   .call 27 [.node [.v 25], .cell (.v 11) 0, .cell (.v 11) 1, .c (.int .i64 (0))] <|
   .flat (.cell (.v 27) 0) <|
   .flat (.cell (.v 27) 1) <|
   .blk (
    .op (.bin .neq) [.cell (.v 26) 2, .c (.int .i64 (0))] <|
    .ite (.v 28) (.leaf 0) <|
    .op (.bin .neq) [.cell (.v 27) 1, .c (.int .i64 (0))] <|
    .ite (.v 29) (.leaf 1) <|
    .op (.bin .eql) [.cell (.v 27) 0, .c (.int .u8 (0))] <|
    .ite (.v 30) (.leaf 2) <|
    .op (.bin .lss) [.cell (.v 11) 0, .cell (.cell (.v 26) 0) 0] <|
    .ite (.v 31) (.leaf 3) <|
    .op (.bin .gtr) [.cell (.v 11) 0, .cell (.cell (.v 26) 0) 1] <|
    .ite (.v 32) (.leaf 4) <|
    .op (.bin .lss) [.cell (.v 11) 1, .cell (.cell (.v 26) 1) 0] <|
    .ite (.v 33) (.leaf 5) <|
    .op (.bin .gtr) [.cell (.v 11) 1, .cell (.cell (.v 26) 1) 1] <|
    .leaf 6) [([.c (.bool true)], 0), ([.c (.bool true)], 0), ([.c (.bool true)], 0), ([.c (.bool true)], 0), ([.c (.bool true)], 0), ([.c (.bool true)], 0), ([.v 34], 0)] [.ite (.v 28) (.leaf 3) <|
    .blk (
     .ite (.v 4) (.op (.bin .eql) [.cell (.v 27) 0, .c (.int .u8 (2))] <|
      .call 22 [.cell (.v 11) 0, .cell (.v 11) 0] <|
      .op (.eqv false [false, false]) [.cell (.cell (.v 26) 0) 0, .cell (.cell (.v 26) 0) 1, .cell (.v 30) 0, .cell (.v 30) 1] <|
      .ite (.v 31) (.call 22 [.cell (.v 11) 1, .cell (.v 11) 1] <|
       .op (.eqv false [false, false]) [.cell (.cell (.v 26) 1) 0, .cell (.cell (.v 26) 1) 1, .cell (.v 32) 0, .cell (.v 32) 1] <|
       .op (.eqv false [true]) [.v 29, .v 33] <|
       .leaf 0) <|
      .op (.eqv false [true]) [.v 29, .c (.bool false)] <|
      .leaf 1) <|
     .leaf 2) [([.v 34], 0), ([.v 32], 0), ([.c (.bool false)], 0)] [.leaf 4]]
theorem F4_eq : F4 = ⟨[(some 2), none, none, none],
 .call 18 [] <|
 .op (.un .not) [.v 4] <|
 .ite (.v 5) (.leaf 0) <|
 .blk (
  .call 19 [.node [.cell (.v 0) 0, .cell (.v 0) 1]] <|
  .ite (.v 6) (.leaf 0) <|
  .call 20 [.node [.cell (.v 0) 0, .cell (.v 0) 1]] <|
  .op (.bin .neq) [.v 7, .c (.int .i64 (0))] <|
  .leaf 1) [([.c (.bool true)], 0), ([.v 8], 0)] [.ite (.v 6) (.leaf 1) <|
  .op (.conv .i64) [.v 1] <|
  .op .len [.cell (.v 0) 0] <|
  .op (.bin .rem) [.v 7, .v 8] <|
  .op (.idx 9) [.cell (.v 0) 0, .v 9] <|
  .op (.elem 0 (some 9)) [.cell (.v 0) 0, .v 9] <|
  .op (.bin .sub) [.cell (.v 11) 0, .c (.int .i64 (500))] <|
  .op (.mx true) [.v 12, .c (.int .i64 (-10000000))] <|
  .op (.bin .add) [.cell (.v 11) 0, .c (.int .i64 (500))] <|
  .op (.mx false) [.v 14, .c (.int .i64 (10000000))] <|
  .call 22 [.v 13, .v 15] <|
  .op (.bin .sub) [.cell (.v 11) 1, .c (.int .i64 (500))] <|
  .op (.mx true) [.v 17, .c (.int .i64 (-10000000))] <|
  .op (.bin .add) [.cell (.v 11) 1, .c (.int .i64 (500))] <|
  .op (.mx false) [.v 19, .c (.int .i64 (10000000))] <|
  .call 22 [.v 18, .v 20] <|
  .call 21 [.node [.cell (.v 16) 0, .cell (.v 16) 1], .node [.cell (.v 21) 0, .cell (.v 21) 1]] <|
  .op (.bin .neq) [.cell (.v 22) 1, .c (.int .i64 (0))] <|
  .ite (.v 23) (.leaf 2) <|
  .op .len [.v 2] <|
  .loop [.c (.int .i64 (0)), .cell (.cell (.v 22) 0) 0] l4 [([.v 29, .v 28], none), ([.v 26], some 0), ([], some 1), ([.v 26], some 0)] [e4t,
   .leaf 5]],
 [.c (.bool false), .v 4, .c (.bool false), .c (.bool false), .v 29, .c (.bool false)], .e⟩ := rfl

theorem outOf_leaf {α : Type} {outs : List (List E × α)} {j : Nat} {ρ : List D} : outOf outs (some (j, ρ)) = (outs[j]?).map (fun p => (p.2, denL ρ p.1)) := rfl
theorem e18 : evL FN 18 [] = some (.bool true) := by
  refine evL_of (F := F18) rfl ?_
  simp [F18, Fn.denV, fits, T.denV, denL, E.den]
theorem e22 (a b : Int) : evL FN 22 [I a, I b] = some (.node [I a, I b]) := by
  refine evL_of (F := F22) rfl ?_
  simp [F22, Fn.denV, fits, T.denV, denVK, denL, E.den]
structure Ar (hs : List Hf) (X Y : Int) : Prop where
  ok : okA hs = true
  at' : inP hs X Y = true
theorem see_ok {hs : List Hf} {l : Lk} {X Y : Int} (h : Ar hs X Y) (hl : l.ok = true) (hv : ∀ k ∈ l.hv, k.a * X + k.b * Y ≤ k.c) : seeS hs l = ([], 9) ∨ seeS hs l = (hs ++ l.hv, 0) ∧ Ar (hs ++ l.hv) X Y := by
  have ho := h.ok
  have hp := inP_iff.1 h.at'
  have hS := okA_sided ho
  have happ : (pt X Y).inA (hs ++ l.hv) := by
    refine ⟨hp.1, fun k hk => ?_⟩
    rcases List.mem_append.1 hk with hk | hk
    · exact hp.2 k hk
    · have := hv k hk
      simpa [pt] using this
  unfold seeS
  by_cases g : 40 < (hs ++ l.hv).length
  · exact .inl (by simp only [ho, hl, Bool.true_eq_false, if_false]; rw [if_pos g])
  · refine .inr ⟨?_, okA_append ho (by rw [List.length_append] at g; omega) (Lk.hv_ok hl), inP_iff.2 happ⟩
    have hpl : hasPl (hs ++ l.hv) = true := (hasPl_sided (hS.mono fun x hx => by simp [hx])).2 ⟨_, happ⟩
    simp only [ho, hl, Bool.true_eq_false, if_false]
    rw [if_neg g, if_neg (by rw [hpl]; simp)]
theorem mark_hv {ox oy fx fy tx ty X Y : Int} (h1 : 0 ≤ fx * (oy - Y) - fy * (ox - X)) (h2 : 0 ≤ (ox - X) * ty - (oy - Y) * tx) : ∀ k ∈ (⟨1, ox, oy, fx, fy, tx, ty, 0, 0, 0⟩ : Lk).hv, k.a * X + k.b * Y ≤ k.c := by
  rw [Int.mul_sub, Int.mul_sub] at h1
  rw [Int.sub_mul, Int.sub_mul] at h2
  intro k hk
  simp [Lk.hv] at hk
  rcases hk with rfl | rfl
  · simp only [Int.neg_mul]
    omega
  · simp only [Int.neg_mul]
    rw [Int.mul_comm ty X, Int.mul_comm tx Y, Int.mul_comm ty ox, Int.mul_comm tx oy]
    omega
theorem start_ok {X Y : Int} (hX : -10000000 ≤ X ∧ X ≤ 10000000) (hY : -10000000 ≤ Y ∧ Y ≤ 10000000) {a b c d : Int} (ha : a ≤ X ∧ -10000000 ≤ a) (hb : X ≤ b ∧ b ≤ 10000000) (hc : c ≤ Y ∧ -10000000 ≤ c) (hd : Y ≤ d ∧ d ≤ 10000000) :
    startS a b c d = (sides a b c d, 0) ∧ Ar (sides a b c d) X Y := by
  have e1 : inS a b (-10000000) 10000000 = true := by simp [inS]; omega
  have e2 : inS c d (-10000000) 10000000 = true := by simp [inS]; omega
  refine ⟨by simp [startS, e1, e2], ?_, ?_⟩
  · simp [okA, sides, Hf.ok, inR, Hf.par]
    omega
  · simp [inP, sides]
    omega
end Go.Q
