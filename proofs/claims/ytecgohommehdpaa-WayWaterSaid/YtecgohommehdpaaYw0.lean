/- Water in truth, day by day. -/
import Derived.Test.YtecgohommehdpaaYp
set_option linter.unusedVariables false
set_option linter.unusedSimpArgs false
set_option maxRecDepth 100000
namespace Go.Q
open Go.V
def i7 : T := .op (.bin .lss) [.v 34, .v 30] <|
     .ite (.v 35) (.op (.idx 3) [.v 2, .v 34] <|
      .op (.elem 0 (some 3)) [.v 2, .v 34] <|
      .blk (
       .op (.bin .eql) [.cell (.v 37) 0, .v 1] <|
       .ite (.v 38) (.op (.bin .eql) [.cell (.v 37) 1, .v 18] <|
        .leaf 0) <|
       .leaf 1) [([.v 39], 0), ([.c (.bool false)], 0)] [.blk (
        .ite (.v 38) (.op (.bin .gtr) [.cell (.v 37) 2, .v 31] <|
         .blk (
          .ite (.v 39) (.leaf 0) <|
          .leaf 1) [([.c (.bool false)], 0), ([.v 33], 0)] [.op (.bin .sub) [.v 31, .cell (.v 37) 2] <|
          .op (.bin .add) [.v 32, .cell (.v 37) 2] <|
          .leaf 0]) <|
        .leaf 1) [([.v 41, .v 42, .v 40], 0), ([.v 31, .v 32, .v 33], 0)] [.op (.bin .add) [.v 34, .c (.int .i64 (1))] <|
        .leaf 0]]) <|
     .leaf 1
def o7 : T := .op (.bin .lss) [.v 18, .v 12] <|
   .ite (.v 19) (.op (.bin .add) [.v 18, .c (.int .i64 (1))] <|
    .call 32 [.v 4, .v 20] <|
    .call 31 [.node [.cell (.v 9) 3, .cell (.v 9) 4], .v 21] <|
    .op (.bin .add) [.v 14, .v 22] <|
    .op (.bin .add) [.v 13, .v 22] <|
    .op (.bin .sub) [.v 24, .cell (.v 9) 5] <|
    .op (.mx true) [.c (.int .i64 (0)), .v 25] <|
    .op (.bin .add) [.v 15, .v 26] <|
    .op (.bin .add) [.v 13, .v 22] <|
    .op (.mx false) [.cell (.v 9) 5, .v 28] <|
    .op .len [.v 2] <|
    .loop [.v 29, .v 16, .v 17, .c (.int .i64 (0))] i7 [([.v 39, .v 40, .v 41, .v 42], none), ([.v 31, .v 32, .v 33], some 0)] [.op (.un .not) [.v 33] <|
     .ite (.v 34) (.leaf 0) <|
     .op (.bin .add) [.v 18, .c (.int .i64 (1))] <|
     .leaf 1]) <|
   .leaf 2
def e7 : T := .op (.conv .i64) [.v 3] <|
   .call 35 [.node [.cell (.v 0) 0, .cell (.v 0) 1], .v 1, .v 2, .v 18] <|
   .op (.bin .neq) [.cell (.v 19) 2, .c (.int .i64 (0))] <|
   .ite (.v 20) (.blk (
     .ite (.v 5) (.op (.bin .eql) [.cell (.v 19) 2, .c (.int .i64 (33))] <|
      .ite (.v 21) (.op (.un .not) [.v 17] <|
       .ite (.v 22) (.op (.bin .geq) [.cell (.v 19) 1, .c (.int .i64 (0))] <|
        .ite (.v 23) (.op .len [.v 2] <|
         .op (.bin .lss) [.cell (.v 19) 1, .v 24] <|
         .ite (.v 25) (.op (.idx 3) [.v 2, .cell (.v 19) 1] <|
          .op (.elem 0 none) [.v 2, .cell (.v 19) 1] <|
          .op (.bin .eql) [.v 27, .v 1] <|
          .ite (.v 28) (.op (.idx 3) [.v 2, .cell (.v 19) 1] <|
           .op (.elem 1 none) [.v 2, .cell (.v 19) 1] <|
           .op (.conv .i64) [.v 3] <|
           .op (.bin .lss) [.v 30, .v 31] <|
           .leaf 0) <|
          .leaf 1) <|
         .leaf 2) <|
        .leaf 3) <|
       .leaf 4) <|
      .leaf 5) <|
     .leaf 6) [([.v 32], 0), ([.c (.bool false)], 0), ([.c (.bool false)], 0), ([.c (.bool false)], 0), ([.c (.bool false)], 0), ([.c (.bool false)], 0), ([.c (.bool false)], 0)] [.leaf 2]) <|
   .blk (
    .op (.bin .lss) [.cell (.cell (.v 19) 0) 0, .c (.int .i64 (0))] <|
    .ite (.v 21) (.leaf 0) <|
    .op (.bin .gtr) [.cell (.cell (.v 19) 0) 0, .cell (.cell (.v 19) 0) 1] <|
    .ite (.v 22) (.leaf 1) <|
    .op (.bin .gtr) [.cell (.cell (.v 19) 0) 1, .cell (.v 9) 5] <|
    .leaf 2) [([.c (.bool true)], 0), ([.c (.bool true)], 0), ([.v 23], 0)] [.ite (.v 21) (.leaf 3) <|
    .blk (
     .ite (.v 5) (.op (.un .not) [.v 17] <|
      .ite (.v 22) (.leaf 0) <|
      .op (.bin .add) [.v 13, .v 16] <|
      .op (.bin .add) [.v 23, .v 15] <|
      .op (.bin .add) [.v 11, .v 14] <|
      .op (.bin .eql) [.v 24, .v 25] <|
      .ite (.v 26) (.op (.bin .geq) [.v 13, .cell (.cell (.v 19) 0) 0] <|
       .ite (.v 27) (.op (.bin .leq) [.v 13, .cell (.cell (.v 19) 0) 1] <|
        .leaf 1) <|
       .leaf 2) <|
      .leaf 3) <|
     .leaf 4) [([.c (.bool true)], 0), ([.v 28], 0), ([.c (.bool false)], 0), ([.c (.bool false)], 0), ([.c (.bool false)], 0)] [.leaf 4]]
theorem F7_eq : F7 = ⟨[(some 2), none, none, none, none],
 .call 24 [] <|
 .op (.un .not) [.v 5] <|
 .ite (.v 6) (.leaf 0) <|
 .blk (
  .call 15 [.node [.cell (.v 0) 0, .cell (.v 0) 1]] <|
  .ite (.v 7) (.leaf 0) <|
  .call 22 [.node [.cell (.v 0) 0, .cell (.v 0) 1]] <|
  .op (.bin .neq) [.v 8, .c (.int .i64 (0))] <|
  .ite (.v 9) (.leaf 1) <|
  .op (.bin .lss) [.v 1, .c (.int .i64 (0))] <|
  .ite (.v 10) (.leaf 2) <|
  .op .len [.cell (.v 0) 0] <|
  .op (.bin .geq) [.v 1, .v 11] <|
  .ite (.v 12) (.leaf 3) <|
  .op .len [.v 2] <|
  .op (.bin .gtr) [.v 13, .c (.int .i64 (200))] <|
  .ite (.v 14) (.leaf 4) <|
  .call 34 [.node [.cell (.v 0) 0, .cell (.v 0) 1], .v 2] <|
  .op (.un .not) [.v 15] <|
  .leaf 5) [([.c (.bool true)], 0), ([.c (.bool true)], 0), ([.c (.bool true)], 0), ([.c (.bool true)], 0), ([.c (.bool true)], 0), ([.v 16], 0)] [.ite (.v 7) (.leaf 1) <|
  .op (.idx 9) [.cell (.v 0) 0, .v 1] <|
  .op (.elem 0 (some 9)) [.cell (.v 0) 0, .v 1] <|
  .call 32 [.v 4, .c (.int .i64 (0))] <|
  .call 31 [.node [.cell (.v 9) 6, .cell (.v 9) 7], .v 10] <|
  .op (.conv .i64) [.v 3] <|
  .loop [.v 11, .c (.int .i64 (0)), .c (.int .i64 (0)), .c (.int .i64 (0)), .c (.bool true), .c (.int .i64 (0))] o7 [([.v 31, .v 23, .v 27, .v 32, .v 33], some 0), ([.v 31, .v 23, .v 27, .v 32, .v 33, .v 35], none), ([.v 13, .v 14, .v 15, .v 16, .v 17], some 0)] [e7]],
 [.c (.bool false), .v 5, .v 21, .c (.bool false), .v 22], .e⟩ := rfl

/-- A day's draws, as they are gone through. -/
structure IS where
  h : Int
  d : Int
  wet : Bool
def iS (k d : Int) (ds : List Dw) (h0 d0 : Int) : Nat → IS
  | 0 => ⟨h0, d0, true⟩
  | j + 1 => match ds[j]? with
    | some x => if x.k = k ∧ x.m = d then ⟨(iS k d ds h0 d0 j).h - x.q, (iS k d ds h0 d0 j).d + x.q, (iS k d ds h0 d0 j).wet && !decide ((iS k d ds h0 d0 j).h < x.q)⟩ else iS k d ds h0 d0 j
    | none => iS k d ds h0 d0 j
def IS.enc (s : IS) (j : Nat) : List D := [I s.h, I s.d, .bool s.wet, I j]
theorem iS_bd {n k d : Int} {ds : List Dw} (hD : drOK n ds = true) {h0 d0 : Int} (hh : 0 ≤ h0 ∧ h0 ≤ 1000000000) : ∀ j, j ≤ ds.length → -1000000000 * (j : Int) ≤ (iS k d ds h0 d0 j).h ∧ (iS k d ds h0 d0 j).h ≤ 1000000000 ∧ d0 ≤ (iS k d ds h0 d0 j).d ∧ (iS k d ds h0 d0 j).d ≤ d0 + 1000000000 * (j : Int) ∧
    (iS k d ds h0 d0 j).h + (iS k d ds h0 d0 j).d = h0 + d0 ∧ ((iS k d ds h0 d0 j).wet = true → 0 ≤ (iS k d ds h0 d0 j).h)
  | 0, _ => by simp [iS]; omega
  | j + 1, hj => by
    have ih := iS_bd hD hh j (by omega) (k := k) (d := d) (d0 := d0)
    have hx : j < ds.length := by omega
    have hq := (dr_at hD hx).2.2.1
    simp only [iS, List.getElem?_eq_getElem hx]
    split
    · simp only [Bool.and_eq_true, Bool.not_eq_true', decide_eq_false_iff_not]
      refine ⟨by omega, by omega, by omega, by omega, by omega, fun h => ?_⟩
      have := ih.2.2.2.2.2 h.1
      omega
    · refine ⟨by omega, by omega, by omega, by omega, by omega, ih.2.2.2.2.2⟩
theorem i7_ok (k : Nat) (d : Nat) (ds : List Dw) (h0 d0 : Int) {n : Int} (hD : drOK n ds = true) (hl : ds.length ≤ 200) (hd : d ≤ 255) (hh : 0 ≤ h0 ∧ h0 ≤ 1000000000) (hdd : 0 ≤ d0 ∧ d0 ≤ 100000000000000) (x0 x3 x4 x5 x6 x7 x8 x9 x10 x11 x12 x13 x14 x15 x16 x17 x19 x20 x21 x22 x23 x24 x25 x26 x27 x28 x29 : D) :
    iterL (fun vals => outOf [([E.v 39, E.v 40, E.v 41, E.v 42], none), ([E.v 31, E.v 32, E.v 33], some 0)] (T.denV (evL FN) ([x0, I k, .list (ds.map Dw.d), x3, x4, x5, x6, x7, x8, x9, x10, x11, x12, x13, x14, x15, x16, x17, I d, x19, x20, x21, x22, x23, x24, x25, x26, x27, x28, x29, I ds.length] ++ vals) i7)) [I h0, I d0, .bool true, I 0] =
      some (0, [I (iS k d ds h0 d0 ds.length).h, I (iS k d ds h0 d0 ds.length).d, .bool (iS k d ds h0 d0 ds.length).wet]) := by
  have ha : allN (fun _ => true) ds.length = true := allN_iff.2 fun _ _ => rfl
  rw [iter_allN ds.length (fun _ => true) (fun j => (iS k d ds h0 d0 j).enc j) 0 0 [] [I (iS k d ds h0 d0 ds.length).h, I (iS k d ds h0 d0 ds.length).d, .bool (iS k d ds h0 d0 ds.length).wet] (by simp [iS, IS.enc])]
  · rw [ha]; rfl
  · intro j hj _
    obtain ⟨b1, b2, b3, b4, b5, b6⟩ := iS_bd (k := k) (d := d) (d0 := d0) hD hh j (by omega)
    have hq := (dr_at hD hj).2.2.1
    have wj := wrapN (show j < 9223372036854775807 by omega)
    simp only [iS, List.getElem?_eq_getElem hj]
    generalize iS k d ds h0 d0 j = s at *
    obtain ⟨sh, sd, sw⟩ := s
    simp only at b1 b2 b3 b4 b5 b6
    simp [IS.enc, i7, hj, D.den1, binD, idx_nat hj, Dw.d, partD, D.cells, outOf, denL, E.den, denVK, T.denV]
    by_cases h1 : ds[j].k = k
    · by_cases h2 : ds[j].m = d
      · have w1 : IntKind.i64.wrap (sh - ds[j].q) = sh - ds[j].q := wI (by omega)
        have w2 : IntKind.i64.wrap (sd + ds[j].q) = sd + ds[j].q := wI (by omega)
        by_cases h3 : sh < ds[j].q
        · have h3' : ¬ ds[j].q ≤ sh := by omega
          simp [h1, h2, h3, h3', outOf, denL, E.den, denVK, T.denV, D.den1, binD, D.cells, w1, w2, wj]
        · have h3' : ds[j].q ≤ sh := by omega
          simp [h1, h2, h3, h3', outOf, denL, E.den, denVK, T.denV, D.den1, binD, D.cells, w1, w2, wj]
      · simp [h1, h2, outOf, denL, E.den, denVK, T.denV, D.den1, binD, D.cells, wj]
    · simp [h1, outOf, denL, E.den, denVK, T.denV, D.den1, binD, D.cells, wj]
  · intro _
    simp [IS.enc, i7, D.den1, binD, outOf, denL, E.den, T.denV]
end Go.Q
