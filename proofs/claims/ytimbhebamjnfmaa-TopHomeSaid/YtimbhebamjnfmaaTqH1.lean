/- TopHome: the tree in pieces; its rounds. -/
import Derived.Test.YtimbhebamjnfmaaTqH0
set_option linter.unusedVariables false
set_option linter.unusedSimpArgs false
set_option maxRecDepth 100000
namespace Go.Q
open Go.V
def tH1 : T := .op (.bin .lss) [.v 16, .v 15] <|
   .ite (.v 18) (.call 36 [.c (.int .i64 (1)), .c (.int .i64 (1))] <|
    .op (.idx 6) [.v 17, .v 16] <|
    .op (.set 0) [.v 17, .v 16, .cell (.v 19) 0, .cell (.v 19) 1] <|
    .op (.idx 6) [.v 21, .v 16] <|
    .op (.elem 0 (some 6)) [.v 21, .v 16] <|
    .call 37 [.node [.cell (.v 23) 0, .cell (.v 23) 1, .cell (.v 23) 2, .cell (.v 23) 3, .cell (.v 23) 4, .cell (.v 23) 5]] <|
    .op (.un .not) [.v 24] <|
    .ite (.v 25) (.leaf 0) <|
    .op (.bin .add) [.v 16, .c (.int .i64 (1))] <|
    .leaf 1) <|
   .leaf 2
def tH3 : T := .blk (
       .ite (.cell (.v 8) 6) (.op (.bin .add) [.v 38, .c (.int .i64 (4))] <|
        .call 41 [.v 10, .v 60] <|
        .call 40 [.node [.cell (.v 7) 12, .cell (.v 7) 13], .v 61] <|
        .op (.bin .mul) [.c (.int .i64 (100000)), .v 62] <|
        .op (.bin .sub) [.v 59, .v 63] <|
        .leaf 0) <|
       .leaf 1) [([.v 64], 0), ([.v 59], 0)] [.op (.bin .add) [.v 38, .c (.int .i64 (5))] <|
       .call 41 [.v 10, .v 61] <|
       .call 40 [.node [.cell (.v 7) 8, .cell (.v 7) 9], .v 62] <|
       .op (.bin .mul) [.v 63, .v 40] <|
       .op (.bin .sub) [.v 33, .v 64] <|
       .blk (
        .op (.bin .lss) [.v 60, .c (.int .i64 (0))] <|
        .ite (.v 66) (.leaf 0) <|
        .op (.bin .lss) [.v 65, .c (.int .i64 (0))] <|
        .leaf 1) [([.c (.bool true)], 0), ([.v 67], 0)] [.ite (.v 66) (.leaf 0) <|
        .op (.bin .mul) [.c (.int .i64 (100000)), .cell (.v 7) 0] <|
        .op (.bin .add) [.v 38, .c (.int .i64 (6))] <|
        .call 41 [.v 10, .v 68] <|
        .call 40 [.node [.cell (.v 9) 6, .cell (.v 9) 7], .v 69] <|
        .op (.bin .mul) [.c (.int .i64 (100000)), .v 70] <|
        .op (.bin .add) [.v 60, .v 71] <|
        .op (.mx false) [.v 67, .v 72] <|
        .op (.bin .mul) [.c (.int .i64 (100000)), .cell (.v 7) 1] <|
        .op (.bin .add) [.v 38, .c (.int .i64 (7))] <|
        .call 41 [.v 10, .v 75] <|
        .call 40 [.node [.cell (.v 9) 4, .cell (.v 9) 5], .v 76] <|
        .op (.bin .mul) [.c (.int .i64 (100000)), .v 77] <|
        .op (.bin .add) [.v 65, .v 78] <|
        .op (.mx false) [.v 74, .v 79] <|
        .op (.bin .add) [.v 38, .c (.int .i64 (2))] <|
        .call 41 [.v 10, .v 81] <|
        .call 40 [.node [.cell (.v 37) 2, .cell (.v 37) 3], .v 82] <|
        .op (.bin .add) [.v 30, .v 83] <|
        .op (.bin .add) [.v 38, .c (.int .i64 (3))] <|
        .call 41 [.v 10, .v 85] <|
        .call 40 [.node [.cell (.v 37) 4, .cell (.v 37) 5], .v 86] <|
        .op (.bin .add) [.v 31, .v 87] <|
        .op (.bin .add) [.v 34, .c (.int .i64 (1))] <|
        .leaf 1]]
def tH2 : T := .op (.bin .lss) [.v 34, .v 29] <|
     .ite (.v 35) (.op (.idx 6) [.v 28, .v 34] <|
      .op (.elem 0 (some 6)) [.v 28, .v 34] <|
      .op (.bin .mul) [.c (.int .i64 (8)), .v 34] <|
      .op (.bin .add) [.c (.int .i64 (100000)), .cell (.v 9) 1] <|
      .op (.bin .mul) [.cell (.v 9) 0, .v 39] <|
      .call 41 [.v 10, .v 38] <|
      .call 40 [.node [.cell (.v 7) 2, .cell (.v 7) 3], .v 41] <|
      .op (.bin .add) [.v 38, .c (.int .i64 (1))] <|
      .call 41 [.v 10, .v 43] <|
      .call 40 [.node [.cell (.v 7) 4, .cell (.v 7) 5], .v 44] <|
      .op (.bin .add) [.v 38, .c (.int .i64 (2))] <|
      .call 41 [.v 10, .v 46] <|
      .call 40 [.node [.cell (.v 9) 2, .cell (.v 9) 3], .v 47] <|
      .op (.bin .sub) [.v 48, .c (.int .i64 (20))] <|
      .op (.mx true) [.c (.int .i64 (0)), .v 49] <|
      .op (.bin .mul) [.v 45, .v 50] <|
      .op (.bin .add) [.v 42, .v 51] <|
      .op (.bin .mul) [.c (.int .i64 (100000)), .v 52] <|
      .op (.bin .add) [.v 38, .c (.int .i64 (3))] <|
      .call 41 [.v 10, .v 54] <|
      .call 40 [.node [.cell (.v 7) 6, .cell (.v 7) 7], .v 55] <|
      .op (.bin .mul) [.v 56, .v 40] <|
      .op (.bin .add) [.v 53, .v 57] <|
      .op (.bin .sub) [.v 32, .v 58] <|
      tH3) <|
     .leaf 2
theorem F7_eq : F7 = ⟨[(some 1), none, none, none, none, none, none, (some 17), (some 7), (some 8), none],
 .call 31 [] <|
 .op (.un .not) [.v 11] <|
 .ite (.v 12) (.leaf 0) <|
 .blk (
  .call 32 [.node [.cell (.v 0) 0]] <|
  .ite (.v 13) (.leaf 0) <|
  .op .len [.v 3] <|
  .op (.bin .gtr) [.v 14, .c (.int .i64 (60))] <|
  .ite (.v 15) (.leaf 1) <|
  .op (.un .neg) [.v 1] <|
  .op (.un .neg) [.v 2] <|
  .op (.mx true) [.v 1, .v 16, .v 2, .v 17] <|
  .op (.bin .gtr) [.v 18, .c (.int .i64 (20000000))] <|
  .ite (.v 19) (.leaf 2) <|
  .op (.mx false) [.v 1, .v 2] <|
  .op (.bin .lss) [.v 20, .c (.int .i64 (-20000000))] <|
  .ite (.v 21) (.leaf 3) <|
  .call 26 [.node [.cell (.v 0) 0]] <|
  .op (.bin .neq) [.v 22, .c (.int .i64 (0))] <|
  .ite (.v 23) (.leaf 4) <|
  .call 33 [.node [.cell (.v 0) 0], .v 1, .v 2] <|
  .op (.un .not) [.v 24] <|
  .ite (.v 25) (.leaf 5) <|
  .call 34 [.node [.cell (.v 7) 0, .cell (.v 7) 1, .cell (.v 7) 2, .cell (.v 7) 3, .cell (.v 7) 4, .cell (.v 7) 5, .cell (.v 7) 6, .cell (.v 7) 7, .cell (.v 7) 8, .cell (.v 7) 9, .cell (.v 7) 10, .cell (.v 7) 11, .cell (.v 7) 12, .cell (.v 7) 13, .cell (.v 7) 14, .cell (.v 7) 15, .cell (.v 7) 16], .node [.cell (.v 8) 0, .cell (.v 8) 1, .cell (.v 8) 2, .cell (.v 8) 3, .cell (.v 8) 4, .cell (.v 8) 5, .cell (.v 8) 6]] <|
  .op (.bin .neq) [.v 26, .c (.int .i64 (0))] <|
  .ite (.v 27) (.leaf 6) <|
  .call 35 [.node [.cell (.v 9) 0, .cell (.v 9) 1, .cell (.v 9) 2, .cell (.v 9) 3, .cell (.v 9) 4, .cell (.v 9) 5, .cell (.v 9) 6, .cell (.v 9) 7]] <|
  .op (.un .not) [.v 28] <|
  .leaf 7) [([.c (.bool true)], 0), ([.c (.bool true)], 0), ([.c (.bool true)], 0), ([.c (.bool true)], 0), ([.c (.bool true)], 0), ([.c (.bool true)], 0), ([.c (.bool true)], 0), ([.v 29], 0)] [.ite (.v 13) (.leaf 1) <|
  .op (.app 6 48) [.c (.list []), .v 3] <|
  .op .len [.v 14] <|
  .loop [.c (.int .i64 (0)), .v 14] tH1 [([], some 0), ([.v 26, .v 21], none), ([.v 17], some 1)] [.leaf 2,
   .call 38 [.node [.cell (.v 0) 0], .v 16, .v 4, .v 5, .v 6] <|
   .flat (.cell (.v 17) 0) <|
   .flat (.cell (.v 17) 1) <|
   .flat (.cell (.v 17) 2) <|
   .call 39 [.node [.cell (.v 7) 0, .cell (.v 7) 1, .cell (.v 7) 2, .cell (.v 7) 3, .cell (.v 7) 4, .cell (.v 7) 5, .cell (.v 7) 6, .cell (.v 7) 7, .cell (.v 7) 8, .cell (.v 7) 9, .cell (.v 7) 10, .cell (.v 7) 11, .cell (.v 7) 12, .cell (.v 7) 13, .cell (.v 7) 14, .cell (.v 7) 15, .cell (.v 7) 16], .node [.cell (.v 8) 0, .cell (.v 8) 1, .cell (.v 8) 2, .cell (.v 8) 3, .cell (.v 8) 4, .cell (.v 8) 5, .cell (.v 8) 6], .node [.cell (.v 9) 0, .cell (.v 9) 1, .cell (.v 9) 2, .cell (.v 9) 3, .cell (.v 9) 4, .cell (.v 9) 5, .cell (.v 9) 6, .cell (.v 9) 7]] <|
   .blk (
    .op (.bin .neq) [.cell (.v 17) 2, .c (.int .i64 (0))] <|
    .ite (.v 19) (.leaf 0) <|
    .op (.bin .neq) [.cell (.v 18) 1, .c (.int .i64 (0))] <|
    .ite (.v 20) (.leaf 1) <|
    .op (.bin .lss) [.cell (.v 17) 1, .c (.int .i64 (0))] <|
    .ite (.v 21) (.leaf 2) <|
    .op (.bin .gtr) [.cell (.v 17) 1, .cell (.cell (.v 18) 0) 0] <|
    .leaf 3) [([.c (.bool true)], 0), ([.c (.bool true)], 0), ([.c (.bool true)], 0), ([.v 22], 0)] [.ite (.v 19) (.leaf 3) <|
    .op .len [.v 16] <|
    .op (.bin .gtr) [.cell (.v 17) 1, .v 20] <|
    .ite (.v 21) (.leaf 4) <|
    .call 41 [.v 10, .c (.int .i64 (0))] <|
    .call 40 [.node [.cell (.v 8) 0, .cell (.v 8) 1], .v 22] <|
    .op (.bin .mul) [.c (.int .i64 (100000)), .v 23] <|
    .call 41 [.v 10, .c (.int .i64 (1))] <|
    .call 40 [.node [.cell (.v 8) 2, .cell (.v 8) 3], .v 25] <|
    .op (.bin .mul) [.c (.int .i64 (100000)), .v 26] <|
    .op (.sl 6 false true) [.v 16, .cell (.v 17) 1] <|
    .op .len [.v 28] <|
    .loop [.v 1, .v 2, .v 24, .v 27, .c (.int .i64 (0))] tH2 [([], some 0), ([.v 84, .v 88, .v 73, .v 80, .v 89], none), ([.v 30, .v 31], some 1)] [.leaf 5,
     .blk (
      .ite (.v 11) (.op (.bin .sub) [.v 30, .v 4] <|
       .op (.bin .sub) [.v 4, .v 30] <|
       .op (.bin .sub) [.v 31, .v 5] <|
       .op (.bin .sub) [.v 5, .v 31] <|
       .op (.mx true) [.v 32, .v 33, .v 34, .v 35] <|
       .op (.bin .leq) [.v 36, .v 6] <|
       .leaf 0) <|
      .leaf 1) [([.v 37], 0), ([.c (.bool false)], 0)] [.leaf 6]]]]],
 [.c (.bool false), .v 11, .v 11, .v 11, .c (.bool false), .c (.bool false), .v 32], .e⟩ := rfl

abbrev oH1 : List (List E × Option Nat) := [([], some 0), ([E.v 26, E.v 21], none), ([E.v 17], some 1)]
abbrev oH2 : List (List E × Option Nat) := [([], some 0), ([E.v 84, E.v 88, E.v 73, E.v 80, E.v 89], none), ([E.v 30, E.v 31], some 1)]
theorem h1_go (ts : List G.Tk) (i : Nat) (hi : i < ts.length) (hl : ts.length ≤ 60) (d0 d1 d2 d3 d4 d5 d6 d7 d8 d9 d10 d11 d12 d13 d14 : D) :
    outOf oH1 (T.denV (evL FN) [d0, d1, d2, d3, d4, d5, d6, d7, d8, d9, d10, d11, d12, d13, d14, I ts.length, I i, G.tks (ones ts i)] tH1) = if (one1 ts[i]).ok then some (none, [I ((i + 1 : Nat) : Int), G.tks (ones ts (i + 1))]) else some (some 0, []) := by
  have hlen := ones_len (ts := ts) i
  have hgi : (ones ts i)[i]? = some ts[i] := by rw [ones_get hi i, if_neg (by omega)]
  have hi' : i < (ones ts i).length := by omega
  have hT : ones ts (i + 1) = (ones ts i).set i (one1 ts[i]) := by simp only [ones, List.getElem?_eq_getElem hi]
  have hidx := idx_nat hi'
  have h36 := e36 1 1
  have h37 := G.e37 (one1 ts[i])
  rw [hT]
  generalize ones ts i = L at *
  have hLi : L[i] = ts[i] := by rw [List.getElem?_eq_getElem hi'] at hgi; exact Option.some.inj hgi
  rw [hlen] at hidx
  simp only [G.Tk.c, one1, I] at h36 h37
  cases ho : (one1 ts[i]).ok <;> simp only [one1] at ho <;> rw [ho] at h37 <;>
    simp [tH1, T.denV, denL, E.den, D.cells, G.tks, D.den1, binD, unD, hi, hlen, hidx, hLi, h36, h37, ho, partD, putD, G.Tk.c, one1, outOf, I, List.map_set, wrapN (show i < 9223372036854775807 by omega)]
theorem h1_end (ts : List G.Tk) (d0 d1 d2 d3 d4 d5 d6 d7 d8 d9 d10 d11 d12 d13 d14 : D) :
    outOf oH1 (T.denV (evL FN) [d0, d1, d2, d3, d4, d5, d6, d7, d8, d9, d10, d11, d12, d13, d14, I ts.length, I ts.length, G.tks (ones ts ts.length)] tH1) = some (some 1, [G.tks (ones ts ts.length)]) := by
  simp [tH1, T.denV, denL, E.den, D.den1, binD, outOf, I]
/-- What is so on a day. -/
def pk (by' : List Wd) (i j : Nat) (lo hi : Int) : Int := pickS lo hi (atS by' (8 * i + j))
def wat1 (b : Br) (m : Mr) (mk : Bool) (by' : List Wd) (i : Nat) (W : Int) : Int := W - (100000 * (pk by' i 0 b.c2 b.c3 + pk by' i 1 b.c4 b.c5 * max 0 (pk by' i 2 m.t0 m.t1 - 20)) + pk by' i 3 b.c6 b.c7 * wrk m) - (if mk then 100000 * pk by' i 4 b.c12 b.c13 else 0)
def fat1 (b : Br) (m : Mr) (by' : List Wd) (i : Nat) (F : Int) : Int := F - pk by' i 5 b.c8 b.c9 * wrk m
def wat2 (b : Br) (m : Mr) (mk : Bool) (by' : List Wd) (i : Nat) (W : Int) : Int := min (100000 * b.c0) (wat1 b m mk by' i W + 100000 * pk by' i 6 m.q0 m.q1)
def fat2 (b : Br) (m : Mr) (by' : List Wd) (i : Nat) (F : Int) : Int := min (100000 * b.c1) (fat1 b m by' i F + 100000 * pk by' i 7 m.e0 m.e1)
set_option maxHeartbeats 1000000 in
theorem h2_go (b : Br) (m : Mr) (c : Cm) (hB : BrOK b) (hM : MrOK m) (by' : List Wd) (L : List G.Tk) (i : Nat) (hi : i < L.length) (hl : L.length ≤ 60) (t : G.Tk) (ht : L[i] = t) (hto : t.ok = true) (x y W F : Int) (hx : -100000000 ≤ x ∧ x ≤ 100000000) (hy : -100000000 ≤ y ∧ y ≤ 100000000)
    (hW : 0 ≤ W ∧ W ≤ 100000000000) (hF : 0 ≤ F ∧ F ≤ 100000000000) (hW1 : 0 ≤ wat1 b m c.x6 by' i W) (hF1 : 0 ≤ fat1 b m by' i F) (d0 d1 d2 d3 d4 d5 d6 d11 d12 d13 d14 d15 d16 d17 d18 d19 d20 d21 d22 d23 d24 d25 d26 d27 : D) :
    outOf oH2 (T.denV (evL FN) [d0, d1, d2, d3, d4, d5, d6, .node b.d, .node c.d, .node m.d, wds by', d11, d12, d13, d14, d15, d16, d17, d18, d19, d20, d21, d22, d23, d24, d25, d26, d27, G.tks L, I L.length, I x, I y, I W, I F, I i] tH2) =
      some (none, [I (x + pk by' i 2 t.e t.e'), I (y + pk by' i 3 t.n t.n'), I (wat2 b m c.x6 by' i W), I (fat2 b m by' i F), I ((i + 1 : Nat) : Int)]) := by
  have hba := hB.a; have hbb := hB.b; have hbc := hB.c; have hbd := hB.d; have hbf := hB.f; have hq := hM.q; have he := hM.e; have htt := hM.t; have hf0 := hB.f0; have hf1 := hB.f1; have hg0 := hB.g0; have hg1 := hB.g1
  have hmh := hM.h; have hml := hM.l
  obtain ⟨w1, w2, -, -⟩ := wrk_bd hM
  have tI : (0 ≤ t.d ∧ t.d ≤ t.d' ∧ t.d' ≤ 60) ∧ (-100000 ≤ t.e ∧ t.e ≤ t.e' ∧ t.e' ≤ 100000) ∧ (-100000 ≤ t.n ∧ t.n ≤ t.n' ∧ t.n' ≤ 100000) := by
    have := hto
    simp only [G.Tk.ok, G.inS, Bool.and_eq_true, decide_eq_true_eq] at this
    omega
  have A : ∀ j : Nat, evL FN 41 [wds by', I (8 * (i : Int) + j)] = some (U32 (atS by' (8 * i + j)).n) := fun j => by
    have := e41 by' (8 * i + j)
    rwa [show ((8 * i + j : Nat) : Int) = 8 * (i : Int) + j by omega] at this
  have a0 := A 0; have a1 := A 1; have a2 := A 2; have a3 := A 3; have a4 := A 4; have a5 := A 5; have a6 := A 6; have a7 := A 7
  have P : ∀ (j : Nat) (lo hi : Int), lo ≤ hi → -1000000000 ≤ lo → hi ≤ 1000000000 → evL FN 40 [.node [I lo, I hi], U32 (atS by' (8 * i + j)).n] = some (I (pk by' i j lo hi)) ∧ lo ≤ pk by' i j lo hi ∧ pk by' i j lo hi ≤ hi := fun j lo hi h1 h2 h3 => ⟨e40 _ h1 h2 h3, pick_in _ h1⟩
  obtain ⟨p0, r0, r0'⟩ := P 0 b.c2 b.c3 (by omega) (by omega) (by omega)
  obtain ⟨p1, r1, r1'⟩ := P 1 b.c4 b.c5 (by omega) (by omega) (by omega)
  obtain ⟨p2, r2, r2'⟩ := P 2 m.t0 m.t1 (by omega) (by omega) (by omega)
  obtain ⟨p3, r3, r3'⟩ := P 3 b.c6 b.c7 (by omega) (by omega) (by omega)
  obtain ⟨p4, r4, r4'⟩ := P 4 b.c12 b.c13 (by omega) (by omega) (by omega)
  obtain ⟨p5, r5, r5'⟩ := P 5 b.c8 b.c9 (by omega) (by omega) (by omega)
  obtain ⟨p6, r6, r6'⟩ := P 6 m.q0 m.q1 (by omega) (by omega) (by omega)
  obtain ⟨p7, r7, r7'⟩ := P 7 m.e0 m.e1 (by omega) (by omega) (by omega)
  obtain ⟨p8, r8, r8'⟩ := P 2 t.e t.e' (by omega) (by omega) (by omega)
  obtain ⟨p9, r9, r9'⟩ := P 3 t.n t.n' (by omega) (by omega) (by omega)
  clear P A
  unfold wat2 fat2
  unfold wat1 fat1 at *
  have hwk : m.h * (100000 + m.l) = wrk m := rfl
  generalize pk by' i 0 b.c2 b.c3 = q0 at *
  generalize pk by' i 1 b.c4 b.c5 = q1 at *
  generalize pk by' i 2 m.t0 m.t1 = q2 at *
  generalize pk by' i 3 b.c6 b.c7 = q3 at *
  generalize pk by' i 4 b.c12 b.c13 = q4 at *
  generalize pk by' i 5 b.c8 b.c9 = q5 at *
  generalize pk by' i 6 m.q0 m.q1 = q6 at *
  generalize pk by' i 7 m.e0 m.e1 = q7 at *
  generalize pk by' i 2 t.e t.e' = q8 at *
  generalize pk by' i 3 t.n t.n' = q9 at *
  generalize atS by' (8 * i + 0) = s0 at *
  generalize atS by' (8 * i + 1) = s1 at *
  generalize atS by' (8 * i + 2) = s2 at *
  generalize atS by' (8 * i + 3) = s3 at *
  generalize atS by' (8 * i + 4) = s4 at *
  generalize atS by' (8 * i + 5) = s5 at *
  generalize atS by' (8 * i + 6) = s6 at *
  generalize atS by' (8 * i + 7) = s7 at *
  have m1 : 0 ≤ q1 * max 0 (q2 - 20) := Int.mul_nonneg (by omega) (by omega)
  have m2 : q1 * max 0 (q2 - 20) ≤ 100000 * 40 := Int.mul_le_mul (by omega) (by omega) (by omega) (by omega)
  have m3 : 0 ≤ q3 * wrk m := Int.mul_nonneg (by omega) w1
  have m4 : q3 * wrk m ≤ 100000 * 26400000 := Int.mul_le_mul (by omega) (by omega) w1 (by omega)
  have m5 : 0 ≤ q5 * wrk m := Int.mul_nonneg (by omega) w1
  have m6 : q5 * wrk m ≤ 100000 * 26400000 := Int.mul_le_mul (by omega) (by omega) w1 (by omega)
  have v1 := wI (x := 8 * (i : Int)) (by omega)
  have v2 := fun j : Int => fun h : 0 ≤ j ∧ j ≤ 10 => wI (x := 8 * (i : Int) + j) (by omega)
  have u1 := v2 1 (by omega); have u2 := v2 2 (by omega); have u3 := v2 3 (by omega); have u4 := v2 4 (by omega); have u5 := v2 5 (by omega); have u6 := v2 6 (by omega); have u7 := v2 7 (by omega)
  have v3 := wI (x := 100000 + m.l) (by omega)
  have v4 := wI (x := m.h * (100000 + m.l)) (by rw [hwk]; omega)
  rw [hwk] at v4
  have v5 := wI (x := q2 - 20) (by omega)
  have v6 := wI (x := q1 * max 0 (q2 - 20)) (by omega)
  have v7 := wI (x := q0 + q1 * max 0 (q2 - 20)) (by omega)
  have v8 := wI (x := 100000 * (q0 + q1 * max 0 (q2 - 20))) (by omega)
  have v9 := wI (x := q3 * wrk m) (by omega)
  have v10 := wI (x := 100000 * (q0 + q1 * max 0 (q2 - 20)) + q3 * wrk m) (by omega)
  have v11 := wI (x := W - (100000 * (q0 + q1 * max 0 (q2 - 20)) + q3 * wrk m)) (by omega)
  have v12 := wI (x := 100000 * q4) (by omega)
  have v13 := wI (x := W - (100000 * (q0 + q1 * max 0 (q2 - 20)) + q3 * wrk m) - 100000 * q4) (by omega)
  have v14 := wI (x := q5 * wrk m) (by omega)
  have v15 := wI (x := F - q5 * wrk m) (by omega)
  have v16 := wI (x := 100000 * b.c0) (by omega)
  have v17 := wI (x := 100000 * q6) (by omega)
  have v18 := wI (x := 100000 * b.c1) (by omega)
  have v19 := wI (x := 100000 * q7) (by omega)
  have v20 := wI (x := F - q5 * wrk m + 100000 * q7) (by omega)
  have v21 := wI (x := x + q8) (by omega)
  have v22 := wI (x := y + q9) (by omega)
  have n1 : ∀ a b : Int, mxD false (.int .i64 a) (.int .i64 b) = some (.int .i64 (min a b)) := G.minD
  have n2 : ∀ a b : Int, mxD true (.int .i64 a) (.int .i64 b) = some (.int .i64 (max a b)) := G.maxD
  have hidx := idx_nat hi
  simp only [wds, I, U32, Int.natCast_zero, Int.add_zero] at *
  simp only [show ((1 : Nat) : Int) = 1 from rfl, show ((2 : Nat) : Int) = 2 from rfl, show ((3 : Nat) : Int) = 3 from rfl, show ((4 : Nat) : Int) = 4 from rfl, show ((5 : Nat) : Int) = 5 from rfl, show ((6 : Nat) : Int) = 6 from rfl, show ((7 : Nat) : Int) = 7 from rfl] at *
  cases hmk : c.x6
  · simp only [hmk, Bool.false_eq_true, if_false, Int.sub_zero] at hW1 ⊢
    have k1 : ¬ W - (100000 * (q0 + q1 * max 0 (q2 - 20)) + q3 * wrk m) < 0 := by omega
    have k2 : ¬ F - q5 * wrk m < 0 := by omega
    have v23 := wI (x := W - (100000 * (q0 + q1 * max 0 (q2 - 20)) + q3 * wrk m) + 100000 * q6) (by omega)
    simp [tH2, tH3, T.denV, denL, E.den, D.cells, G.tks, D.den1, binD, unD, mxLD, n1, n2, Br.d, Cm.d, Mr.d, hi, hidx, ht, partD, G.Tk.c, outOf, denVK, hmk, hwk, a0, a1, a2, a3, a4, a5, a6, a7, p0, p1, p2, p3, p4, p5, p6, p7, p8, p9, v1, u1, u2, u3, u4, u5, u6, u7, v3, v4, v5, v6, v7, v8, v9, v10, v11, v12, v13, v14, v15, v16, v17, v18, v19, v20, v21, v22, v23, k1, k2, I, wrapN (show i < 9223372036854775807 by omega)]
  · simp only [hmk, if_true] at hW1 ⊢
    have k1 : ¬ W - (100000 * (q0 + q1 * max 0 (q2 - 20)) + q3 * wrk m) - 100000 * q4 < 0 := by omega
    have k2 : ¬ F - q5 * wrk m < 0 := by omega
    have v23 := wI (x := W - (100000 * (q0 + q1 * max 0 (q2 - 20)) + q3 * wrk m) - 100000 * q4 + 100000 * q6) (by omega)
    simp [tH2, tH3, T.denV, denL, E.den, D.cells, G.tks, D.den1, binD, unD, mxLD, n1, n2, Br.d, Cm.d, Mr.d, hi, hidx, ht, partD, G.Tk.c, outOf, denVK, hmk, hwk, a0, a1, a2, a3, a4, a5, a6, a7, p0, p1, p2, p3, p4, p5, p6, p7, p8, p9, v1, u1, u2, u3, u4, u5, u6, u7, v3, v4, v5, v6, v7, v8, v9, v10, v11, v12, v13, v14, v15, v16, v17, v18, v19, v20, v21, v22, v23, k1, k2, I, wrapN (show i < 9223372036854775807 by omega)]
end Go.Q
