/- A well for all: the law. -/
import Derived.Test.YtecgohommehdpaaGreatXz6
set_option linter.unusedVariables false
set_option linter.unusedSimpArgs false
set_option maxRecDepth 100000
namespace Go.Q
open Go.V
theorem e13 : evL FN 13 [] = some (.bool true) := by
  refine evL_of (F := F13) rfl ?_
  simp [F13, Fn.denV, fits, T.denV, denL, E.den]
def cms (xs : List Cm) : D := .list (xs.map Cm.d)
def w5 : T := .op (.app 3 24) [.c (.list []), .v 5] <|
  .op (.bin .sub) [.v 6, .c (.int .i64 (1))] <|
  .op (.listOf 3 1 [.int .i64 (0), .int .i64 (0), .int .i64 (0)] [0]) [.v 4, .v 22, .v 15] <|
  .op (.app 3 24) [.v 21, .v 23] <|
  .call 24 [.node [.cell (.v 3) 0, .cell (.v 3) 1], .v 4, .v 24, .v 6] <|
  .flat (.cell (.cell (.v 25) 0) 0) <|
  .flat (.cell (.cell (.v 25) 0) 1) <|
  .flat (.cell (.v 25) 1) <|
  .flat (.cell (.v 25) 2) <|
  .blk (
   .ite (.v 7) (.op (.bin .eql) [.cell (.v 25) 2, .c (.int .i64 (0))] <|
    .ite (.v 26) (.op (.bin .sub) [.cell (.cell (.v 18) 0) 0, .v 15] <|
     .op (.bin .sub) [.cell (.cell (.v 18) 0) 1, .v 15] <|
     .call 22 [.v 27, .v 28] <|
     .op (.eqv false [false, false]) [.cell (.cell (.v 25) 0) 0, .cell (.cell (.v 25) 0) 1, .cell (.v 29) 0, .cell (.v 29) 1] <|
     .leaf 0) <|
    .leaf 1) <|
   .leaf 2) [([.v 30], 0), ([.c (.bool false)], 0), ([.c (.bool false)], 0)] [.leaf 8]
def b5 : T := .op (.bin .gtr) [.v 10, .c (.int .i64 (0))] <|
.ite (.v 11) (.op (.bin .sub) [.v 10, .c (.int .i64 (1))] <|
 .op (.idx 3) [.v 5, .v 12] <|
 .op (.elem 1 none) [.v 5, .v 12] <|
 .op (.bin .geq) [.v 14, .v 6] <|
 .leaf 0) <|
.leaf 1
def c5 : T := .ite (.v 11) (.leaf 2) <|
    .call 20 [.node [.cell (.v 0) 0, .cell (.v 0) 1, .cell (.v 0) 2, .cell (.v 0) 3, .cell (.v 0) 4, .cell (.v 0) 5, .cell (.v 0) 6, .cell (.v 0) 7, .cell (.v 0) 8, .cell (.v 0) 9, .cell (.v 0) 10, .cell (.v 0) 11, .cell (.v 0) 12, .cell (.v 0) 13, .cell (.v 0) 14, .cell (.v 0) 15, .cell (.v 0) 16], .v 1] <|
    .op (.bin .neq) [.cell (.v 12) 1, .c (.int .i64 (0))] <|
    .ite (.v 13) (.leaf 3) <|
    .op .len [.v 1] <|
    .loop [.c (.int .i64 (0)), .c (.int .i64 (0)), .c (.int .i64 (0))] (
     .op (.bin .lss) [.v 17, .v 14] <|
     .ite (.v 18) (.blk (
       .op (.idx 7) [.v 1, .v 17] <|
       .op (.elem 0 (some 7)) [.v 1, .v 17] <|
       .call 21 [.node [.cell (.v 0) 0, .cell (.v 0) 1, .cell (.v 0) 2, .cell (.v 0) 3, .cell (.v 0) 4, .cell (.v 0) 5, .cell (.v 0) 6, .cell (.v 0) 7, .cell (.v 0) 8, .cell (.v 0) 9, .cell (.v 0) 10, .cell (.v 0) 11, .cell (.v 0) 12, .cell (.v 0) 13, .cell (.v 0) 14, .cell (.v 0) 15, .cell (.v 0) 16], .cell (.v 20) 6, .node [.c (.int .i64 (0)), .c (.int .i64 (0)), .cell (.v 2) 0, .cell (.v 2) 1, .c (.int .i64 (0)), .c (.int .i64 (0)), .c (.int .i64 (0)), .c (.int .i64 (0))]] <|
       .blk (
        .op (.bin .neq) [.cell (.v 21) 2, .c (.int .i64 (0))] <|
        .ite (.v 22) (.leaf 0) <|
        .op (.eqv true [false, false]) [.cell (.cell (.v 21) 1) 0, .cell (.cell (.v 21) 1) 1, .c (.int .i64 (0)), .c (.int .i64 (0))] <|
        .leaf 1) [([.c (.bool true)], 0), ([.v 23], 0)] [.ite (.v 22) (.leaf 0) <|
        .op (.bin .add) [.cell (.cell (.v 21) 0) 1, .cell (.v 0) 0] <|
        .op (.bin .sub) [.v 23, .cell (.v 20) 0] <|
        .blk (
         .op (.bin .lss) [.v 24, .c (.int .i64 (0))] <|
         .ite (.v 25) (.leaf 0) <|
         .op (.bin .gtr) [.v 24, .c (.int .i64 (1000000))] <|
         .ite (.v 26) (.leaf 1) <|
         .op (.bin .lss) [.cell (.v 20) 0, .cell (.cell (.v 21) 0) 1] <|
         .leaf 2) [([.c (.bool true)], 0), ([.c (.bool true)], 0), ([.v 27], 0)] [.ite (.v 25) (.leaf 1) <|
         .op (.bin .add) [.v 15, .v 24] <|
         .call 22 [.v 24, .v 24] <|
         .call 23 [.node [.cell (.v 0) 0, .cell (.v 0) 1, .cell (.v 0) 2, .cell (.v 0) 3, .cell (.v 0) 4, .cell (.v 0) 5, .cell (.v 0) 6, .cell (.v 0) 7, .cell (.v 0) 8, .cell (.v 0) 9, .cell (.v 0) 10, .cell (.v 0) 11, .cell (.v 0) 12, .cell (.v 0) 13, .cell (.v 0) 14, .cell (.v 0) 15, .cell (.v 0) 16], .node [.cell (.v 20) 0, .cell (.v 20) 1, .cell (.v 20) 2, .cell (.v 20) 3, .cell (.v 20) 4, .cell (.v 20) 5, .cell (.v 20) 6], .node [.c (.int .i64 (0)), .c (.int .i64 (0)), .cell (.v 2) 0, .cell (.v 2) 1, .c (.int .i64 (0)), .c (.int .i64 (0)), .cell (.v 27) 0, .cell (.v 27) 1]] <|
         .blk (
          .op (.bin .neq) [.cell (.v 28) 2, .c (.int .i64 (0))] <|
          .ite (.v 29) (.leaf 0) <|
          .op (.bin .neq) [.cell (.v 28) 1, .c (.int .u8 (0))] <|
          .ite (.v 30) (.leaf 1) <|
          .call 22 [.cell (.v 0) 0, .cell (.v 0) 0] <|
          .op (.eqv true [false, false]) [.cell (.cell (.v 28) 0) 0, .cell (.cell (.v 28) 0) 1, .cell (.v 31) 0, .cell (.v 31) 1] <|
          .leaf 2) [([.c (.bool true)], 0), ([.c (.bool true)], 0), ([.v 32], 0)] [.ite (.v 29) (.leaf 2) <|
          .op (.bin .sub) [.v 24, .cell (.cell (.v 21) 0) 1] <|
          .op (.bin .add) [.v 16, .v 30] <|
          .leaf 3]]]) [([.c (.bool false)], 0), ([.v 7], 0), ([.c (.bool false)], 0), ([.v 26, .v 31], 1)] [.leaf 0,
       .op (.bin .add) [.v 17, .c (.int .i64 (1))] <|
       .leaf 1]) <|
     .leaf 2) [([.v 19], some 0), ([.v 19, .v 20, .v 21], none), ([.v 15, .v 16], some 1)] [.leaf 4,
     .op (.bin .neq) [.v 16, .cell (.cell (.v 12) 0) 1] <|
     .ite (.v 17) (.leaf 5) <|
     .call 24 [.node [.cell (.v 3) 0, .cell (.v 3) 1], .v 4, .v 5, .v 6] <|
     .op (.bin .neq) [.cell (.v 18) 2, .c (.int .i64 (0))] <|
     .ite (.v 19) (.blk (
       .ite (.v 7) (.op (.bin .eql) [.cell (.v 18) 2, .c (.int .i64 (33))] <|
        .leaf 0) <|
       .leaf 1) [([.v 20], 0), ([.c (.bool false)], 0)] [.leaf 6]) <|
     .blk (
      .op (.bin .lss) [.cell (.cell (.v 18) 0) 0, .v 15] <|
      .ite (.v 20) (.leaf 0) <|
      .op (.bin .gtr) [.v 15, .c (.int .i64 (1000000000))] <|
      .leaf 1) [([.c (.bool true)], 0), ([.v 21], 0)] [.ite (.v 20) (.leaf 7) <|
      w5]]
theorem F5_eq : F5 = ⟨[(some 17), none, (some 2), (some 2), none, none, none],
 .call 13 [] <|
 .blk (
  .call 14 [.node [.cell (.v 0) 0, .cell (.v 0) 1, .cell (.v 0) 2, .cell (.v 0) 3, .cell (.v 0) 4, .cell (.v 0) 5, .cell (.v 0) 6, .cell (.v 0) 7, .cell (.v 0) 8, .cell (.v 0) 9, .cell (.v 0) 10, .cell (.v 0) 11, .cell (.v 0) 12, .cell (.v 0) 13, .cell (.v 0) 14, .cell (.v 0) 15, .cell (.v 0) 16]] <|
  .op (.bin .neq) [.v 8, .c (.int .i64 (0))] <|
  .ite (.v 9) (.leaf 0) <|
  .call 15 [.node [.c (.int .i64 (0)), .c (.int .i64 (0)), .cell (.v 2) 0, .cell (.v 2) 1, .c (.int .i64 (0)), .c (.int .i64 (0)), .c (.int .i64 (0)), .c (.int .i64 (0))]] <|
  .op (.un .not) [.v 10] <|
  .ite (.v 11) (.leaf 1) <|
  .op .len [.v 1] <|
  .op (.bin .gtr) [.v 12, .c (.int .i64 (30))] <|
  .ite (.v 13) (.leaf 2) <|
  .call 16 [.node [.cell (.v 3) 0, .cell (.v 3) 1]] <|
  .ite (.v 14) (.leaf 3) <|
  .call 17 [.node [.cell (.v 3) 0, .cell (.v 3) 1]] <|
  .op (.bin .neq) [.v 15, .c (.int .i64 (0))] <|
  .ite (.v 16) (.leaf 4) <|
  .op (.bin .lss) [.v 4, .c (.int .i64 (0))] <|
  .ite (.v 17) (.leaf 5) <|
  .op .len [.cell (.v 3) 0] <|
  .op (.bin .geq) [.v 4, .v 18] <|
  .ite (.v 19) (.leaf 6) <|
  .op (.bin .lss) [.v 6, .c (.int .i64 (1))] <|
  .ite (.v 20) (.leaf 7) <|
  .op (.bin .gtr) [.v 6, .c (.int .i64 (100000))] <|
  .ite (.v 21) (.leaf 8) <|
  .op .len [.v 5] <|
  .op (.bin .geq) [.v 22, .c (.int .i64 (200))] <|
  .ite (.v 23) (.leaf 9) <|
  .call 18 [.node [.cell (.v 3) 0, .cell (.v 3) 1], .v 5] <|
  .op (.un .not) [.v 24] <|
  .ite (.v 25) (.leaf 10) <|
  .op (.un .not) [.v 7] <|
  .leaf 11) [([.c (.bool true)], 0), ([.c (.bool true)], 0), ([.c (.bool true)], 0), ([.c (.bool true)], 0), ([.c (.bool true)], 0), ([.c (.bool true)], 0), ([.c (.bool true)], 0), ([.c (.bool true)], 0), ([.c (.bool true)], 0), ([.c (.bool true)], 0), ([.c (.bool true)], 0), ([.v 26], 0)] [.ite (.v 8) (.leaf 0) <|
  .op .len [.v 1] <|
  .loop [.c (.int .i64 (0))] (
   .op (.bin .lss) [.v 10, .v 9] <|
   .ite (.v 11) (.op (.idx 7) [.v 1, .v 10] <|
    .op (.elem 0 (some 7)) [.v 1, .v 10] <|
    .call 19 [.node [.cell (.v 0) 0, .cell (.v 0) 1, .cell (.v 0) 2, .cell (.v 0) 3, .cell (.v 0) 4, .cell (.v 0) 5, .cell (.v 0) 6, .cell (.v 0) 7, .cell (.v 0) 8, .cell (.v 0) 9, .cell (.v 0) 10, .cell (.v 0) 11, .cell (.v 0) 12, .cell (.v 0) 13, .cell (.v 0) 14, .cell (.v 0) 15, .cell (.v 0) 16], .node [.cell (.v 13) 0, .cell (.v 13) 1, .cell (.v 13) 2, .cell (.v 13) 3, .cell (.v 13) 4, .cell (.v 13) 5, .cell (.v 13) 6]] <|
    .op (.un .not) [.v 14] <|
    .ite (.v 15) (.leaf 0) <|
    .op (.bin .add) [.v 10, .c (.int .i64 (1))] <|
    .leaf 1) <|
   .leaf 2) [([], some 0), ([.v 16], none), ([], some 1)] [.leaf 1,
   .op .len [.v 5] <|
   .blk b5 [([.v 15], 0), ([.c (.bool false)], 0)] [c5]]],
 [.v 7, .v 7, .v 7, .c (.bool false), .v 15, .c (.bool false), .v 20, .v 7, .v 26], .e⟩ := rfl

theorem denV_op {Fs : FuncId → List D → Option D} {ρ : List D} {p : Prim} {xs : List E} {k : T} {d : D} (h : D.den1 p (denL ρ xs) = some d) : T.denV Fs ρ (.op p xs k) = T.denV Fs (ρ ++ [d]) k := by rw [T.denV, h]
theorem cap25 {n : Nat} (h : n ≤ 1000) : (n + 1) * 25 ≤ 1099511627776 := Nat.le_trans (Nat.mul_le_mul_right 25 (show n + 1 ≤ 1001 by omega)) (by decide)
theorem app25 (xs ys : List Dw) (h : xs.length + ys.length ≤ 1000) : D.den1 (.app 3 24) [dws xs, dws ys] = some (dws (xs ++ ys)) := by
  unfold dws
  simp only [D.den1]
  rw [if_pos ⟨.inr (by simpa using cap25 h), by simp [Dw.d]⟩, List.map_append]
theorem wst_app (w : Wl) (k day : Int) (ds es : List Dw) : ∀ i, i ≤ ds.length → wst w k day (ds ++ es) i = wst w k day ds i
  | 0, _ => rfl
  | i + 1, hi => by
    have h := wst_app w k day ds es i (by omega)
    simp only [wst, List.getElem?_append_left (show i < ds.length by omega), h]
theorem wgo_app (w : Wl) (k day : Int) (ds es : List Dw) (i : Nat) (hi : i < ds.length) : wgo w k day (ds ++ es) i = wgo w k day ds i := by
  simp only [wgo, List.getElem?_append_left hi, wst_app w k day ds es i (by omega)]
theorem dr_app {n : Int} {ds : List Dw} {x : Dw} (h : drOK n ds = true) (hx : inR x.k 0 (n - 1) = true ∧ inR x.m 0 100000 = true ∧ inR x.q 0 1000000000 = true) (hl : ∀ i, (hi : i < ds.length) → ds[i].m ≤ x.m) : drOK n (ds ++ [x]) = true := by
  refine allN_iff.2 fun j hj => ?_
  rw [List.length_append, List.length_singleton] at hj
  by_cases hj' : j < ds.length
  · have := allN_iff.1 h j hj'
    have hp : dpv (ds ++ [x]) j = dpv ds j := by
      cases j with
      | zero => rfl
      | succ j => simp only [dpv, Nat.add_sub_cancel, List.getElem?_append_left (show j < ds.length by omega)]
    simp only [dwat, hp, List.getElem?_append_left hj'] at this ⊢
    exact this
  · obtain rfl : j = ds.length := by omega
    have hp : dpv (ds ++ [x]) ds.length ≤ x.m := by
      cases hn : ds.length with
      | zero => simp only [dpv, if_true]; exact (inR_iff.1 hx.2.1).1
      | succ m =>
        have := hl m (by omega)
        simp only [dpv, Nat.add_sub_cancel, List.getElem?_append_left (show m < ds.length by omega), List.getElem?_eq_getElem (show m < ds.length by omega)]
        simpa using this
    simp [dwat, dstp, hx.1, hx.2.1, hx.2.2, hp]
/-- One draw more, on the eve: the well has so much less. -/
theorem more (w : Wl) (hw : WlOK w) (k : Int) {n : Int} (day : Int) (ds : List Dw) (al : Int) (hD : drOK n ds = true) (hd : 1 ≤ day ∧ day ≤ 100000) (hf : firstN (wgo w k day ds) ds.length 0 = none) (hal : 0 ≤ al)
    (h1 : al ≤ wlo w (wst w k day ds ds.length).lo (day - (wst w k day ds ds.length).t)) :
    watD w k day (ds ++ [(⟨k, day - 1, al⟩ : Dw)]) = .node [.node [I (wlo w (wst w k day ds ds.length).lo (day - (wst w k day ds ds.length).t) - al), I (whi w (wst w k day ds ds.length).hi (day - (wst w k day ds ds.length).t) - al)], I 0, I 0] := by
  have hall := firstN_none.1 hf
  have hv := w_inv (k := k) hw hD (show 0 ≤ day ∧ day ≤ 100000 by omega) ds.length (Nat.le_refl _) (fun j hj => hall j (by omega) (by omega))
  have e1 := wst_app w k day ds [(⟨k, day - 1, al⟩ : Dw)] ds.length (Nat.le_refl _)
  have hsk : dskip k day (⟨k, day - 1, al⟩ : Dw) = false := by simp [dskip]; omega
  have v1 := hv.t0; have v2 := hv.td; have v3 := hv.lo; have v4 := hv.hi
  have hfb := fill_bd hw v3 v4 (n := day - (wst w k day ds ds.length).t) (by omega)
  have hdy : ddry w (wst w k day ds ds.length) ⟨k, day - 1, al⟩ = false := by
    simp only [ddry, decide_eq_false_iff_not, show day - 1 + 1 = day from by omega]; omega
  have e2 : wst w k day (ds ++ [(⟨k, day - 1, al⟩ : Dw)]) (ds.length + 1) = dstep w (wst w k day ds ds.length) ⟨k, day - 1, al⟩ := by
    simp [wst, e1, hsk]
  have hf2 : firstN (wgo w k day (ds ++ [(⟨k, day - 1, al⟩ : Dw)])) (ds ++ [(⟨k, day - 1, al⟩ : Dw)]).length 0 = none := by
    refine firstN_none.2 fun j _ hj => ?_
    rw [List.length_append, List.length_singleton] at hj
    by_cases hj' : j < ds.length
    · rw [wgo_app _ _ _ _ _ _ hj']; exact hall j (by omega) (by omega)
    · obtain rfl : j = ds.length := by omega
      simp [wgo, e1, hsk, hdy]
  unfold watD
  rw [hf2]
  simp only [List.length_append, List.length_singleton, e2, dstep, show day - 1 + 1 = day from by omega, Int.sub_self]
  generalize wlo w (wst w k day ds ds.length).lo (day - (wst w k day ds ds.length).t) = a at *
  generalize whi w (wst w k day ds ds.length).hi (day - (wst w k day ds ds.length).t) = b at *
  have q1 : wlo w (max 0 (a - al)) 0 = a - al := by unfold wlo; simp; omega
  have q2 : whi w (b - al) 0 = b - al := by unfold whi; simp; omega
  rw [q1, q2]
theorem w5_ok (ws : List Wl) (ls : List Lg) (k : Nat) (ds : List Dw) (day al a b : Int) (x0 x1 x2 x8 x9 x10 x11 x12 x13 x14 x16 x17 x19 x20 : D)
    (hds : ds.length ≤ 900) (h24 : evL FN 24 [landD ws ls, I k, dws (ds ++ [(⟨k, day - 1, al⟩ : Dw)]), I day] = some (.node [.node [I (a - al), I (b - al)], I 0, I 0])) (hday : 1 ≤ day ∧ day ≤ 100000) (ha : 0 ≤ a ∧ a ≤ 1000000000) (hb : 0 ≤ b ∧ b ≤ 1000000000) (hal : 0 ≤ al ∧ al ≤ 1000000000) {outs : List E} (ho : outs[8]? = some (.v 26)) :
    ∃ ρ, T.denV (evL FN) [x0, x1, x2, landD ws ls, I k, dws ds, I day, .bool true, x8, x9, x10, x11, x12, x13, x14, I al, x16, x17, .node [.node [I a, I b], I 0, I 0], x19, x20] w5 = some (8, ρ) ∧ ρ.getD 26 D.unit = .bool true := by
  have e1 : D.den1 (.app 3 24) (denL [x0, x1, x2, landD ws ls, I k, dws ds, I day, .bool true, x8, x9, x10, x11, x12, x13, x14, I al, x16, x17, .node [.node [I a, I b], I 0, I 0], x19, x20] [.c (.list []), .v 5]) = some (dws ds) := by
    have := app25 [] ds (by simp; omega)
    simpa [denL, E.den, dws] using this
  have w1 : IntKind.i64.wrap (day - 1) = day - 1 := wI (by omega)
  have e4 := app25 ds [(⟨k, day - 1, al⟩ : Dw)] (by simp; omega)
  have w2 : IntKind.i64.wrap (a - al) = a - al := wI (by omega)
  have w3 : IntKind.i64.wrap (b - al) = b - al := wI (by omega)
  have h22 := e22 (a - al) (b - al)
  rw [w5, denV_op e1]
  rw [denV_op (d := I (day - 1)) (by simp [denL, E.den, D.den1, binD, w1])]
  rw [denV_op (d := dws [(⟨k, day - 1, al⟩ : Dw)]) (by simp [denL, E.den, D.den1, fillD, dws, Dw.d, D.flat, D.flat0])]
  rw [denV_op (d := dws (ds ++ [(⟨k, day - 1, al⟩ : Dw)])) (by simpa [denL, E.den] using e4)]
  simp only [landD, I] at h24 h22 ⊢
  simp [denL, E.den, T.denV, D.cells, h24, D.flat, D.flat0, D.den1, binD, w2, w3, h22, outOf, denVK, eqD1, eqDL]
/-- What each animal wants; up to which it is gone on. -/
def need (b : Br) (h1 : Int) (c : Cm) : Int := W1 b h1 c.x6 + b.c0 - c.x0
def pgo (b : Br) (h1 : Int) (c : Cm) : Bool := !(decide (need b h1 c < 0) || decide (1000000 < need b h1 c) || decide (c.x0 < W1 b h1 c.x6))
def allS (b : Br) (h1 : Int) (xs : List Cm) : Nat → Int
  | 0 => 0
  | n + 1 => allS b h1 xs n + ((xs[n]?).map (need b h1)).getD 0
theorem all_bd {b : Br} {h1 : Int} {xs : List Cm} : ∀ n, n ≤ xs.length → (∀ j, j < n → (xs[j]?).all (pgo b h1) = true) → 0 ≤ allS b h1 xs n ∧ allS b h1 xs n ≤ 1000000 * n
  | 0, _, _ => by simp [allS]
  | n + 1, hn, h => by
    obtain ⟨i1, i2⟩ := all_bd n (by omega) (fun j hj => h j (by omega))
    have hc := h n (by omega)
    simp only [List.getElem?_eq_getElem (show n < xs.length by omega), Option.all_some, pgo, Bool.not_eq_true', Bool.or_eq_false_iff, decide_eq_false_iff_not] at hc
    simp only [allS, List.getElem?_eq_getElem (show n < xs.length by omega), Option.map_some, Option.getD_some]
    omega
def late (ds : List Dw) (day : Int) : Bool := decide (0 < ds.length) && ((ds[ds.length - 1]?).map (fun x => decide (day ≤ x.m))).getD false
theorem b5_ok (ds : List Dw) (day : Int) (hds : ds.length ≤ 9223372036854775807) (x0 x1 x2 x3 x4 x7 x8 x9 : D) :
    outOf [([E.v 15], 0), ([E.c (.bool false)], 0)] (T.denV (evL FN) [x0, x1, x2, x3, x4, .list (ds.map Dw.d), I day, x7, x8, x9, I ds.length] b5) = some (0, [.bool (late ds day)]) := by
  unfold b5 late
  cases hn : ds.length with
  | zero => simp [T.denV, denL, E.den, D.den1, binD, outOf]
  | succ n =>
    have h0 : (0 : Int) < (n : Int) + 1 := by omega
    have hlt : n < ds.length := by omega
    have hgt : ds[n]? = some ds[n] := List.getElem?_eq_getElem hlt
    have w1 : IntKind.i64.wrap ((n : Int) + 1 - 1) = n := by rw [show (n : Int) + 1 - 1 = n from by omega]; exact wI (by omega)
    have w1' : IntKind.i64.wrap (n : Int) = n := wI (by omega)
    have hii : D.idx (.int .i64 (n : Int)) (n + 1) = some n := idx_nat (by omega)
    simp [T.denV, denL, E.den, D.den1, binD, outOf, h0, w1, w1', hn, hii, hgt, Dw.d, partD]
def outs5 : List E := [.v 7, .v 7, .v 7, .c (.bool false), .v 15, .c (.bool false), .v 20, .v 7, .v 26]
theorem late_false {n : Int} {ds : List Dw} {day : Int} (hD : drOK n ds = true) (h : late ds day = false) {i : Nat} (hi : i < ds.length) : ds[i].m < day := by
  have h0 : 0 < ds.length := by omega
  have hl : ds.length - 1 < ds.length := by omega
  simp only [late, h0, decide_true, Bool.true_and, List.getElem?_eq_getElem hl, Option.map_some, Option.getD_some, decide_eq_false_iff_not] at h
  have := dr_le hD hi (ds.length - 1) (by omega) hl
  omega
theorem c5_ok (b : Br) (xs : List Cm) (h0 h1 : Int) (ws : List Wl) (ls : List Lg) (k : Nat) (ds : List Dw) (day : Int) (x8 x9 x10 : D) (hw : ws.length ≤ 9223372036854775807) (hl : ls.length ≤ 9223372036854775807) (hbg : big ls)
    (hb : brOK b = true) (hh : inS h0 h1 0 60 = true) (hx : xs.length ≤ 30) (hL : landOK ws ls = true) (hk : k < ws.length) (hday : 1 ≤ day ∧ day ≤ 100000) (hds : ds.length ≤ 199) (hD : drOK ws.length ds = true) (hA : ∀ c ∈ xs, cmOK b c = true) :
    ∃ j ρ, T.denV (evL FN) [.node b.d, .list (xs.map Cm.d), .node [I h0, I h1], .node [.list (ws.map Wl.d), .list (ls.map Lg.d)], I k, .list (ds.map Dw.d), I day, .bool true, x8, x9, x10, .bool (late ds day)] c5 = some (j, ρ) ∧ Option.map (E.den ρ) outs5[j]? = some (.bool true) := by
  cases hlt : late ds day with
  | true => exact ⟨2, _, by simp [c5, T.denV, E.den]; rfl, by simp [outs5, E.den]⟩
  | false =>
    have hlast := fun i hi => late_false (i := i) hD hlt hi
    have hB := br_ok hb
    have hf0 := hB.f0; have hf1 := hB.f1
    have hh' : 0 ≤ h0 ∧ h0 ≤ h1 ∧ h1 ≤ 60 := by simp only [inS, Bool.and_eq_true, decide_eq_true_eq] at hh; omega
    have h20 := e20 b xs hx
    have hcm : ∀ i, i < xs.length → ((xs[i]?).map (cmE b)).getD 0 = 0 := fun i hi => by
      simp only [List.getElem?_eq_getElem hi, Option.map_some, Option.getD_some, cmE, hb, if_true, hA _ (List.getElem_mem hi)]
    have hfn : firstN (fun i => decide (((xs[i]?).map (cmE b)).getD 0 = 0)) xs.length 0 = none := firstN_none.2 fun j _ hj => by simpa using hcm j (by omega)
    rw [hb, if_pos rfl] at h20
    unfold thD at h20
    rw [hfn] at h20
    simp only at h20
    have h21 := fun mk => e21 b mk hb h0 h1 hh
    have h22 := e22
    simp only [Br.d, I] at h20 h21 h22 ⊢
    simp [c5, T.denV, denL, E.den, D.cells, D.den1, binD, h20]
    rw [iter_nat xs.length (fun i => (xs[i]?).all (pgo b h1)) (fun i => [I (allS b h1 xs i), I (sm b.c0 Cm.x0 xs i), I i]) 0 1 (fun i => [.bool true]) [I (allS b h1 xs xs.length), I (sm b.c0 Cm.x0 xs xs.length)] (by simp [sm, allS])]
    · cases hf : firstN (fun i => (xs[i]?).all (pgo b h1)) xs.length 0 with
      | some j => exact ⟨4, _, by simp [denVK, T.denV, E.den]; rfl, by simp [outs5, E.den]⟩
      | none =>
        have hall := firstN_none.1 hf
        obtain ⟨s1, s2⟩ := all_bd (b := b) (h1 := h1) xs.length (Nat.le_refl _) (fun j hj => hall j (by omega) (by omega))
        have h24 := e24 ws ls k ds day hw hl hbg hL hk (by omega) (by omega) hD
        have hO := land_wl hL hk
        have o2 := hO.r1
        simp only [landD, wls, lgs, dws, I] at h24
        simp [denVK, T.denV, denL, E.den, D.cells, D.den1, binD, h24]
        cases hf2 : firstN (wgo ws[k] k day ds) ds.length 0 with
        | some j =>
          refine ⟨6, _, by simp [watD, hf2, denVK, T.denV, denL, E.den, D.cells, D.den1, binD, outOf]; rfl, by simp [outs5, E.den]⟩
        | none =>
          have hall2 := firstN_none.1 hf2
          have hv := w_inv (k := k) hO hD (show 0 ≤ day ∧ day ≤ 100000 by omega) ds.length (Nat.le_refl _) (fun j hj => hall2 j (by omega) (by omega))
          have v1 := hv.t0; have v2 := hv.td; have v3 := hv.lo; have v4 := hv.hi
          have hfb := fill_bd hO v3 v4 (n := day - (wst ws[k] k day ds ds.length).t) (by omega)
          have hmore := more ws[k] hO k day ds (allS b h1 xs xs.length) hD hday hf2 s1
          have h24' := e24 ws ls k (ds ++ [(⟨k, day - 1, allS b h1 xs xs.length⟩ : Dw)]) day hw hl hbg hL hk (by omega) (by rw [List.length_append, List.length_singleton]; omega)
            (dr_app hD ⟨inR_iff.2 (by dsimp only; omega), inR_iff.2 (by dsimp only; omega), inR_iff.2 (by dsimp only; omega)⟩ (fun i hi => by have := hlast i hi; dsimp only; omega))
          simp only [watD, hf2]
          generalize wlo ws[k] (wst ws[k] k day ds ds.length).lo (day - (wst ws[k] k day ds ds.length).t) = a at *
          generalize whi ws[k] (wst ws[k] k day ds ds.length).hi (day - (wst ws[k] k day ds ds.length).t) = z at *
          generalize allS b h1 xs xs.length = al at *
          by_cases g1 : a < al
          · refine ⟨7, _, by simp [denVK, T.denV, denL, E.den, D.cells, D.den1, binD, outOf, g1]; rfl, by simp [outs5, E.den]⟩
          have g2 : ¬ 1000000000 < al := by omega
          rw [hmore (by omega)] at h24'
          obtain ⟨ρ, r1, r2⟩ := w5_ok ws ls k ds day al a z (.node b.d) (.list (xs.map Cm.d)) (.node [I h0, I h1]) x8 x9 x10 (.bool false) (.node [.node [I (sm b.c0 Cm.x1 xs xs.length), I (sm b.c0 Cm.x0 xs xs.length)], I 0]) (.bool false) (I xs.length) (I (sm b.c0 Cm.x0 xs xs.length)) (.bool false) (.bool false) (.bool false) (by omega) h24' hday (by omega) (by omega) (by omega) (outs := outs5) rfl
          simp only [landD, wls, lgs, dws, Br.d, I] at r1
          refine ⟨8, ρ, ?_, ?_⟩
          · simp [denVK, T.denV, denL, E.den, D.cells, D.den1, binD, outOf, g1, g2]
            exact r1
          · simpa [outs5, E.den] using r2
    · intro i hi hp
      obtain ⟨s1, s2⟩ := all_bd (b := b) (h1 := h1) i (by omega) hp
      have hc := hA _ (List.getElem_mem hi)
      have hC := cm_ok hc
      have hca := hC.a
      obtain ⟨z1, z2, z3, -, -⟩ := W_bd hB hh' xs[i].x6
      have hsm := sm_bd (c0 := b.c0) (f := Cm.x0) (xs := xs) (by omega) hx (fun c hc => by have := (cm_ok (hA c hc)).a; omega) i (by omega)
      have w1 : IntKind.i64.wrap (W1 b h1 xs[i].x6 + b.c0) = W1 b h1 xs[i].x6 + b.c0 := wI (by omega)
      have w2 : IntKind.i64.wrap (W1 b h1 xs[i].x6 + b.c0 - xs[i].x0) = W1 b h1 xs[i].x6 + b.c0 - xs[i].x0 := wI (by omega)
      have w4 : IntKind.i64.wrap (W1 b h1 xs[i].x6 + b.c0 - xs[i].x0 - W1 b h1 xs[i].x6) = IntKind.i64.wrap (b.c0 - xs[i].x0) := by congr 1; omega
      have wi := wrapN (show i < 9223372036854775807 by omega)
      have h21 := h21 xs[i].x6
      simp only [sm, allS, List.getElem?_eq_getElem hi, Option.map_some, Option.getD_some, Option.all_some, pgo, need]
      simp [hi, idx_nat hi, partD, Cm.d, D.cells, binD, D.den1, E.den, denL, T.denV, h21, outOf, denVK, eqD1, eqDL, w1, w2]
      by_cases g1 : W1 b h1 xs[i].x6 + b.c0 - xs[i].x0 < 0
      · simp [g1, outOf, denL, E.den, denVK, T.denV, D.den1, binD, D.cells]
      by_cases g2 : 1000000 < W1 b h1 xs[i].x6 + b.c0 - xs[i].x0
      · simp [g1, g2, outOf, denL, E.den, denVK, T.denV, D.den1, binD, D.cells]
      by_cases g3 : xs[i].x0 < W1 b h1 xs[i].x6
      · simp [g1, g2, g3, outOf, denL, E.den, denVK, T.denV, D.den1, binD, D.cells]
      have w3 : IntKind.i64.wrap (allS b h1 xs i + (W1 b h1 xs[i].x6 + b.c0 - xs[i].x0)) = allS b h1 xs i + (W1 b h1 xs[i].x6 + b.c0 - xs[i].x0) := wI (by omega)
      have h23' := e23 b xs[i] hb hc h0 h1 (W1 b h1 xs[i].x6 + b.c0 - xs[i].x0) hh rfl (by omega) (by omega)
      simp only [Br.d, Cm.d, rested, I] at h23'
      have h22a := h22 (W1 b h1 xs[i].x6 + b.c0 - xs[i].x0) (W1 b h1 xs[i].x6 + b.c0 - xs[i].x0)
      simp [g1, g2, g3, outOf, denL, E.den, denVK, T.denV, D.den1, binD, D.cells, w3, w4, wi, h22, h23', eqD1, eqDL]
    · intro _
      simp [D.den1, binD, outOf, denL, E.den]
theorem e5 (b : Br) (xs : List Cm) (h0 h1 : Int) (ws : List Wl) (ls : List Lg) (well : Int) (ds : List Dw) (day : Int) (hxs : xs.length ≤ 9223372036854775807) (hw : ws.length ≤ 9223372036854775807) (hl : ls.length ≤ 9223372036854775807) (hbg : big ls) (hds : ds.length ≤ 9223372036854775807)  :
    evL FN 5 [.node b.d, cms xs, .node [I h0, I h1], landD ws ls, I well, dws ds, I day] = some (.bool true) := by
  refine evL_of (F := F5) rfl ?_
  rw [F5_eq]
  have h13 := e13
  have h14 := e14 b
  have h15 := e15 h0 h1
  have h16 := e16 ws ls hl
  have h17 := e17 ws ls hw hl hbg
  have h18 := e18 ws ls ds hw hds
  unfold cms
  simp only [Br.d, landD, wls, lgs, dws, I] at h14 h15 h16 h17 h18 ⊢
  simp [Fn.denV, fits, T.denV, denL, E.den, D.cells, h13, h14, D.den1, binD, unD]
  cases hb : brOK b
  · simp [outOf, denL, E.den, denVK, T.denV]
  simp [denL, E.den, D.cells, T.denV, D.den1, binD, unD, h15]
  cases hh : inS h0 h1 0 60
  · simp [outOf, denL, E.den, denVK, T.denV]
  simp [denL, E.den, D.cells, T.denV, D.den1, binD, unD]
  by_cases hx : xs.length ≤ 30
  rotate_left
  · have hx' : (30 : Int) < xs.length := by omega
    simp [outOf, denL, E.den, denVK, T.denV, hx']
  have hx' : ¬ (30 : Int) < xs.length := by omega
  simp [denL, E.den, D.cells, T.denV, D.den1, binD, unD, hx', h16]
  cases hg : greatL ws ls
  rotate_left
  · simp [outOf, denL, E.den, denVK, T.denV]
  simp [denL, E.den, D.cells, T.denV, D.den1, binD, unD, h17]
  cases hL : landOK ws ls
  · simp [outOf, denL, E.den, denVK, T.denV]
  simp [denL, E.den, D.cells, T.denV, D.den1, binD, unD]
  by_cases g1 : well < 0
  · simp [outOf, denL, E.den, denVK, T.denV, g1]
  simp [denL, E.den, D.cells, T.denV, D.den1, binD, unD, g1]
  obtain ⟨k, rfl⟩ := Int.eq_ofNat_of_zero_le (show 0 ≤ well by omega)
  by_cases g2 : k < ws.length
  rotate_left
  · have g2' : ws.length ≤ k := by omega
    simp [outOf, denL, E.den, denVK, T.denV, g2']
  have g2' : ¬ ws.length ≤ k := by omega
  simp [denL, E.den, D.cells, T.denV, D.den1, binD, unD, g2']
  by_cases g3 : day < 1
  · simp [outOf, denL, E.den, denVK, T.denV, g3]
  simp [denL, E.den, D.cells, T.denV, D.den1, binD, unD, g3]
  by_cases g4 : 100000 < day
  · simp [outOf, denL, E.den, denVK, T.denV, g4]
  simp [denL, E.den, D.cells, T.denV, D.den1, binD, unD, g4]
  by_cases g5 : 200 ≤ ds.length
  · have g5' : (200 : Int) ≤ ds.length := by omega
    simp [outOf, denL, E.den, denVK, T.denV, g5']
  have g5' : ¬ (200 : Int) ≤ ds.length := by omega
  simp [denL, E.den, D.cells, T.denV, D.den1, binD, unD, g5', h18]
  cases hD : drOK ws.length ds
  · simp [outOf, denL, E.den, denVK, T.denV]
  simp [outOf, denVK, denL, E.den, D.cells, T.denV, D.den1, binD, unD]
  rw [iter_all (p := cmOK b) (t := 0) (u := 1) (xs := xs)]
  rotate_left
  · intro i c hi
    obtain ⟨hlt, rfl⟩ := List.getElem?_eq_some_iff.1 hi
    have h19 := e19 b xs[i]
    simp only [Br.d, Cm.d, I] at h19
    simp [hlt, idx_nat hlt, Cm.d, partD, D.cells, h19, D.den1, binD, unD]
    cases cmOK b xs[i] <;> simp [outOf, denL, E.den, denVK, T.denV, D.den1, binD, wrapN (show i < 9223372036854775807 by omega)]
  · simp [outOf, denL, E.den, D.den1, binD]
  cases hA : xs.all (cmOK b)
  · simp [denVK, T.denV, E.den, denL]
  simp [denVK, T.denV, E.den, denL, D.den1, binD]
  have hA' : ∀ c ∈ xs, cmOK b c = true := List.all_eq_true.1 hA
  have hb5 := b5_ok ds day hds (.node b.d) (.list (xs.map Cm.d)) (.node [I h0, I h1]) (.node [.list (ws.map Wl.d), .list (ls.map Lg.d)]) (I k) (.bool true) (.bool false) (I xs.length)
  obtain ⟨j, ρ, q1, q2⟩ := c5_ok b xs h0 h1 ws ls k ds day (.bool false) (I xs.length) (I ds.length) hw hl hbg hb hh hx hL g2 (by omega) (by omega) hD (List.all_eq_true.1 hA)
  simp only [Br.d, I] at hb5 q1
  rw [hb5]
  simp only [denVK, List.cons_append, List.nil_append]
  rw [q1]
  exact q2
end Go.Q
