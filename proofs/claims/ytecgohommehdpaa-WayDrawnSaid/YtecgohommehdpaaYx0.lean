/- Draws more, later days, lifting in parts. -/
import Derived.Test.YtecgohommehdpaaYp
set_option linter.unusedVariables false
set_option linter.unusedSimpArgs false
set_option maxRecDepth 100000
namespace Go.Q
open Go.V
def w8a : T := .op (.app 3 24) [.c (.list []), .v 2] <|
      .op (.bin .sub) [.v 3, .c (.int .i64 (1))] <|
      .op (.conv .i64) [.v 4] <|
      .op (.listOf 3 1 [.int .i64 (0), .int .i64 (0), .int .i64 (0)] [0]) [.v 1, .v 15, .v 16] <|
      .op (.app 3 24) [.v 14, .v 17] <|
      .call 35 [.node [.cell (.v 0) 0, .cell (.v 0) 1], .v 1, .v 18, .v 3] <|
      .flat (.cell (.cell (.v 19) 0) 0) <|
      .flat (.cell (.cell (.v 19) 0) 1) <|
      .flat (.cell (.v 19) 1) <|
      .flat (.cell (.v 19) 2) <|
      .blk (
       .op (.bin .neq) [.cell (.v 19) 2, .c (.int .i64 (0))] <|
       .ite (.v 20) (.op (.bin .neq) [.cell (.v 19) 2, .c (.int .i64 (33))] <|
        .ite (.v 21) (.leaf 0) <|
        .op (.conv .i64) [.v 4] <|
        .op (.bin .geq) [.cell (.cell (.v 11) 0) 1, .v 22] <|
        .ite (.v 23) (.leaf 1) <|
        .op (.bin .eql) [.cell (.v 19) 2, .c (.int .i64 (0))] <|
        .ite (.v 24) (.op (.conv .i64) [.v 4] <|
         .op (.bin .sub) [.cell (.cell (.v 11) 0) 1, .v 25] <|
         .op (.bin .neq) [.cell (.cell (.v 19) 0) 1, .v 26] <|
         .ite (.v 27) (.leaf 2) <|
         .op (.conv .i64) [.v 4] <|
         .op (.bin .sub) [.cell (.cell (.v 11) 0) 0, .v 28] <|
         .op (.mx true) [.c (.int .i64 (0)), .v 29] <|
         .op (.bin .neq) [.cell (.cell (.v 19) 0) 0, .v 30] <|
         .leaf 3) <|
        .leaf 4) <|
       .op (.bin .eql) [.cell (.v 19) 2, .c (.int .i64 (0))] <|
       .ite (.v 21) (.op (.conv .i64) [.v 4] <|
        .op (.bin .sub) [.cell (.cell (.v 11) 0) 1, .v 22] <|
        .op (.bin .neq) [.cell (.cell (.v 19) 0) 1, .v 23] <|
        .ite (.v 24) (.leaf 5) <|
        .op (.conv .i64) [.v 4] <|
        .op (.bin .sub) [.cell (.cell (.v 11) 0) 0, .v 25] <|
        .op (.mx true) [.c (.int .i64 (0)), .v 26] <|
        .op (.bin .neq) [.cell (.cell (.v 19) 0) 0, .v 27] <|
        .leaf 6) <|
       .leaf 7) [([.c (.bool true)], 0), ([.c (.bool true)], 0), ([.c (.bool true)], 0), ([.v 31], 0), ([.c (.bool false)], 0), ([.c (.bool true)], 0), ([.v 28], 0), ([.c (.bool false)], 0)] [.ite (.v 20) (.leaf 0) <|
       .op (.bin .lss) [.v 3, .c (.int .i64 (100000))] <|
       .blk (
        .ite (.v 21) (.op (.bin .add) [.v 3, .c (.int .i64 (1))] <|
         .call 35 [.node [.cell (.v 0) 0, .cell (.v 0) 1], .v 1, .v 2, .v 22] <|
         .op (.idx 9) [.cell (.v 0) 0, .v 1] <|
         .op (.elem 0 (some 9)) [.cell (.v 0) 0, .v 1] <|
         .blk (
          .op (.bin .neq) [.cell (.v 23) 2, .c (.int .i64 (0))] <|
          .ite (.v 26) (.leaf 0) <|
          .op (.bin .add) [.cell (.cell (.v 11) 0) 0, .cell (.v 25) 3] <|
          .op (.mx false) [.cell (.v 25) 5, .v 27] <|
          .op (.bin .add) [.cell (.cell (.v 11) 0) 1, .cell (.v 25) 4] <|
          .op (.mx false) [.cell (.v 25) 5, .v 29] <|
          .call 36 [.v 28, .v 30] <|
          .op (.eqv true [false, false]) [.cell (.cell (.v 23) 0) 0, .cell (.cell (.v 23) 0) 1, .cell (.v 31) 0, .cell (.v 31) 1] <|
          .leaf 1) [([.c (.bool true)], 0), ([.v 32], 0)] [.ite (.v 26) (.leaf 0) <|
          .leaf 1]) <|
        .leaf 2) [([], 0), ([], 1), ([], 1)] [.leaf 1,
        .leaf 2]]
def c8 : T := .op (.bin .eql) [.cell (.v 11) 2, .c (.int .i64 (0))] <|
    .ite (.v 13) (.op .len [.v 2] <|
     .op (.bin .lss) [.v 14, .c (.int .i64 (200))] <|
     .ite (.v 15) (.op .len [.v 2] <|
      .op (.bin .eql) [.v 16, .c (.int .i64 (0))] <|
      .ite (.v 17) (.op (.bin .gtr) [.v 3, .c (.int .i64 (0))] <|
       .leaf 0) <|
      .op .len [.v 2] <|
      .op (.bin .sub) [.v 18, .c (.int .i64 (1))] <|
      .op (.idx 3) [.v 2, .v 19] <|
      .op (.elem 1 none) [.v 2, .v 19] <|
      .op (.bin .lss) [.v 21, .v 3] <|
      .ite (.v 22) (.op (.bin .gtr) [.v 3, .c (.int .i64 (0))] <|
       .leaf 1) <|
      .leaf 2) <|
     .leaf 3) <|
    .leaf 4
def g8 : T := .op (.bin .lss) [.v 5, .c (.int .i64 (0))] <|
      .ite (.v 14) (.leaf 0) <|
      .op (.bin .lss) [.v 6, .c (.int .i64 (0))] <|
      .ite (.v 15) (.leaf 1) <|
      .op (.bin .gtr) [.v 5, .c (.int .i64 (1000000000))] <|
      .ite (.v 16) (.leaf 2) <|
      .op (.bin .sub) [.c (.int .i64 (1000000000)), .v 5] <|
      .op (.bin .gtr) [.v 6, .v 17] <|
      .ite (.v 18) (.leaf 3) <|
      .op (.bin .lss) [.v 7, .c (.int .i64 (1))] <|
      .ite (.v 19) (.leaf 4) <|
      .op (.bin .gtr) [.v 7, .c (.int .i64 (100))] <|
      .leaf 5
def k8 : T := .call 37 [.node [.cell (.v 0) 0, .cell (.v 0) 1], .v 1, .v 5, .v 7] <|
      .call 37 [.node [.cell (.v 0) 0, .cell (.v 0) 1], .v 1, .v 6, .v 7] <|
      .op (.bin .add) [.v 5, .v 6] <|
      .call 37 [.node [.cell (.v 0) 0, .cell (.v 0) 1], .v 1, .v 17, .v 7] <|
      .op (.bin .add) [.v 5, .v 6] <|
      .op (.idx 9) [.cell (.v 0) 0, .v 1] <|
      .op (.elem 2 none) [.cell (.v 0) 0, .v 1] <|
      .op (.bin .mul) [.v 19, .v 21] <|
      .blk (
       .ite (.v 8) (.op (.bin .eql) [.cell (.v 15) 1, .c (.int .i64 (0))] <|
        .ite (.v 23) (.op (.bin .eql) [.cell (.v 16) 1, .c (.int .i64 (0))] <|
         .ite (.v 24) (.op (.bin .eql) [.cell (.v 18) 1, .c (.int .i64 (0))] <|
          .ite (.v 25) (.op (.bin .add) [.cell (.v 15) 0, .cell (.v 16) 0] <|
           .op (.bin .leq) [.cell (.v 18) 0, .v 26] <|
           .ite (.v 27) (.op (.bin .add) [.cell (.v 18) 0, .c (.int .i64 (1))] <|
            .op (.bin .add) [.cell (.v 15) 0, .cell (.v 16) 0] <|
            .op (.bin .geq) [.v 28, .v 29] <|
            .ite (.v 30) (.op (.bin .mul) [.cell (.v 18) 0, .v 7] <|
             .op (.bin .mul) [.v 31, .c (.int .i64 (1000000))] <|
             .op (.bin .geq) [.v 32, .v 22] <|
             .ite (.v 33) (.op (.bin .eql) [.cell (.v 18) 0, .c (.int .i64 (0))] <|
              .ite (.v 34) (.leaf 0) <|
              .op (.bin .sub) [.cell (.v 18) 0, .c (.int .i64 (1))] <|
              .op (.bin .mul) [.v 35, .v 7] <|
              .op (.bin .mul) [.v 36, .c (.int .i64 (1000000))] <|
              .op (.bin .lss) [.v 37, .v 22] <|
              .leaf 1) <|
             .leaf 2) <|
            .leaf 3) <|
           .leaf 4) <|
          .leaf 5) <|
         .leaf 6) <|
        .leaf 7) <|
       .leaf 8) [([.c (.bool true)], 0), ([.v 38], 0), ([.c (.bool false)], 0), ([.c (.bool false)], 0), ([.c (.bool false)], 0), ([.c (.bool false)], 0), ([.c (.bool false)], 0), ([.c (.bool false)], 0), ([.c (.bool false)], 0)] [.leaf 5]
def m8 : T := .blk g8 [([.c (.bool true)], 0), ([.c (.bool true)], 0), ([.c (.bool true)], 0), ([.c (.bool true)], 0), ([.c (.bool true)], 0), ([.v 20], 0)] [.ite (.v 14) (.leaf 4) <|
      k8]
theorem F8_eq : F8 = ⟨[(some 2), none, none, none, none, none, none, none],
 .call 24 [] <|
 .op (.un .not) [.v 8] <|
 .ite (.v 9) (.leaf 0) <|
 .blk (
  .call 15 [.node [.cell (.v 0) 0, .cell (.v 0) 1]] <|
  .ite (.v 10) (.leaf 0) <|
  .call 22 [.node [.cell (.v 0) 0, .cell (.v 0) 1]] <|
  .op (.bin .neq) [.v 11, .c (.int .i64 (0))] <|
  .ite (.v 12) (.leaf 1) <|
  .op (.bin .lss) [.v 1, .c (.int .i64 (0))] <|
  .ite (.v 13) (.leaf 2) <|
  .op .len [.cell (.v 0) 0] <|
  .op (.bin .geq) [.v 1, .v 14] <|
  .ite (.v 15) (.leaf 3) <|
  .op .len [.v 2] <|
  .op (.bin .gtr) [.v 16, .c (.int .i64 (200))] <|
  .ite (.v 17) (.leaf 4) <|
  .call 34 [.node [.cell (.v 0) 0, .cell (.v 0) 1], .v 2] <|
  .op (.un .not) [.v 18] <|
  .ite (.v 19) (.leaf 5) <|
  .op (.bin .lss) [.v 3, .c (.int .i64 (0))] <|
  .ite (.v 20) (.leaf 6) <|
  .op (.bin .gtr) [.v 3, .c (.int .i64 (100000))] <|
  .leaf 7) [([.c (.bool true)], 0), ([.c (.bool true)], 0), ([.c (.bool true)], 0), ([.c (.bool true)], 0), ([.c (.bool true)], 0), ([.c (.bool true)], 0), ([.c (.bool true)], 0), ([.v 21], 0)] [.ite (.v 10) (.leaf 1) <|
  .call 35 [.node [.cell (.v 0) 0, .cell (.v 0) 1], .v 1, .v 2, .v 3] <|
  .blk (
   .op (.bin .neq) [.cell (.v 11) 2, .c (.int .i64 (0))] <|
   .ite (.v 12) (.op (.bin .neq) [.cell (.v 11) 2, .c (.int .i64 (33))] <|
    .leaf 0) <|
   .leaf 1) [([.v 13], 0), ([.c (.bool false)], 0)] [.ite (.v 12) (.leaf 2) <|
   .blk c8 [([.v 18], 0), ([.v 23], 0), ([.c (.bool false)], 0), ([.c (.bool false)], 0), ([.c (.bool false)], 0)] [.blk (
     .ite (.v 13) w8a <|
     .leaf 3) [([], 0), ([], 0), ([], 1), ([], 1)] [.leaf 3,
     m8]]]],
 [.c (.bool false), .v 8, .c (.bool false), .c (.bool false), .v 8, .v 23], .e⟩ := rfl
theorem denV_op {Fs : FuncId → List D → Option D} {ρ : List D} {p : Prim} {xs : List E} {k : T} {d : D} (h : D.den1 p (denL ρ xs) = some d) : T.denV Fs ρ (.op p xs k) = T.denV Fs (ρ ++ [d]) k := by rw [T.denV, h]
theorem cap25 {n : Nat} (h : n ≤ 1000) : (n + 1) * 25 ≤ 1099511627776 := Nat.le_trans (Nat.mul_le_mul_right 25 (show n + 1 ≤ 1001 by omega)) (by decide)
theorem app25 (xs ys : List Dw) (h : xs.length + ys.length ≤ 1000) : D.den1 (.app 3 24) [dws xs, dws ys] = some (dws (xs ++ ys)) := by
  unfold dws
  simp only [D.den1]
  rw [if_pos ⟨.inr (by simpa using cap25 h), by simp [Dw.d]⟩, List.map_append]
theorem wst_app (w : Wl) (k day : Int) (ds es : List Dw) : ∀ i, i ≤ ds.length → wst w k day (ds ++ es) i = wst w k day ds i
  | 0, _ => rfl
  | i + 1, hi => by
    have h := wst_app w k day ds es i (by omega)
    simp only [wst, List.getElem?_append_left (show i < ds.length by omega), h]
theorem wgo_app (w : Wl) (k day : Int) (ds es : List Dw) (i : Nat) (hi : i < ds.length) : wgo w k day (ds ++ es) i = wgo w k day ds i := by
  simp only [wgo, List.getElem?_append_left hi, wst_app w k day ds es i (by omega)]
theorem dr_app {n : Int} {ds : List Dw} {x : Dw} (h : drOK n ds = true) (hx : inR x.k 0 (n - 1) = true ∧ inR x.m 0 100000 = true ∧ inR x.q 0 1000000000 = true) (hl : ∀ i, (hi : i < ds.length) → ds[i].m ≤ x.m) : drOK n (ds ++ [x]) = true := by
  refine allN_iff.2 fun j hj => ?_
  rw [List.length_append, List.length_singleton] at hj
  by_cases hj' : j < ds.length
  · have := allN_iff.1 h j hj'
    have hp : dpv (ds ++ [x]) j = dpv ds j := by
      cases j with
      | zero => rfl
      | succ j => simp only [dpv, Nat.add_sub_cancel, List.getElem?_append_left (show j < ds.length by omega)]
    simp only [dwat, hp, List.getElem?_append_left hj'] at this ⊢
    exact this
  · obtain rfl : j = ds.length := by omega
    have hp : dpv (ds ++ [x]) ds.length ≤ x.m := by
      cases hn : ds.length with
      | zero => simp only [dpv, if_true]; exact (inR_iff.1 hx.2.1).1
      | succ m =>
        have := hl m (by omega)
        simp only [dpv, Nat.add_sub_cancel, List.getElem?_append_left (show m < ds.length by omega), List.getElem?_eq_getElem (show m < ds.length by omega)]
        simpa using this
    simp [dwat, dstp, hx.1, hx.2.1, hx.2.2, hp]

theorem outOf_leaf {α : Type} {outs : List (List E × α)} {j : Nat} {ρ : List D} : outOf outs (some (j, ρ)) = (outs[j]?).map (fun p => (p.2, denL ρ p.1)) := rfl
/-- A draw more, on the eve: so much less, or too much. -/
theorem more2 (w : Wl) (hw : WlOK w) (k : Int) {n : Int} (day : Int) (ds : List Dw) (al : Int) (hD : drOK n ds = true) (hd : 1 ≤ day ∧ day ≤ 100000) (hf : firstN (wgo w k day ds) ds.length 0 = none) (hal : 0 ≤ al) :
    watD w k day (ds ++ [(⟨k, day - 1, al⟩ : Dw)]) = if al ≤ whi w (wst w k day ds ds.length).hi (day - (wst w k day ds ds.length).t) then .node [.node [I (max 0 (wlo w (wst w k day ds ds.length).lo (day - (wst w k day ds ds.length).t) - al)), I (whi w (wst w k day ds ds.length).hi (day - (wst w k day ds ds.length).t) - al)], I 0, I 0] else .node [.node [I 0, I 0], I ds.length, I 33] := by
  have hall := firstN_none.1 hf
  have hv := w_inv (k := k) hw hD (show 0 ≤ day ∧ day ≤ 100000 by omega) ds.length (Nat.le_refl _) (fun j hj => hall j (by omega) (by omega))
  have e1 := wst_app w k day ds [(⟨k, day - 1, al⟩ : Dw)] ds.length (Nat.le_refl _)
  have hsk : dskip k day (⟨k, day - 1, al⟩ : Dw) = false := by simp [dskip]; omega
  have v1 := hv.t0; have v2 := hv.td; have v3 := hv.lo; have v4 := hv.hi
  have hfb := fill_bd hw v3 v4 (n := day - (wst w k day ds ds.length).t) (by omega)
  have hpre : ∀ j, j < ds.length → wgo w k day (ds ++ [(⟨k, day - 1, al⟩ : Dw)]) j = true := fun j hj => by rw [wgo_app _ _ _ _ _ _ hj]; exact hall j (by omega) (by omega)
  have hdy : ddry w (wst w k day ds ds.length) ⟨k, day - 1, al⟩ = decide (whi w (wst w k day ds ds.length).hi (day - (wst w k day ds ds.length).t) < al) := by
    simp only [ddry, show day - 1 + 1 = day from by omega]
  have hlast : wgo w k day (ds ++ [(⟨k, day - 1, al⟩ : Dw)]) ds.length = !decide (whi w (wst w k day ds ds.length).hi (day - (wst w k day ds ds.length).t) < al) := by
    simp [wgo, e1, hsk, hdy]
  have e2 : wst w k day (ds ++ [(⟨k, day - 1, al⟩ : Dw)]) (ds.length + 1) = dstep w (wst w k day ds ds.length) ⟨k, day - 1, al⟩ := by
    simp [wst, e1, hsk]
  by_cases g : al ≤ whi w (wst w k day ds ds.length).hi (day - (wst w k day ds ds.length).t)
  · rw [if_pos g]
    have hf2 : firstN (wgo w k day (ds ++ [(⟨k, day - 1, al⟩ : Dw)])) (ds ++ [(⟨k, day - 1, al⟩ : Dw)]).length 0 = none := by
      refine firstN_none.2 fun j _ hj => ?_
      rw [List.length_append, List.length_singleton] at hj
      by_cases hj' : j < ds.length
      · exact hpre j hj'
      · obtain rfl : j = ds.length := by omega
        rw [hlast]; simp; omega
    unfold watD
    rw [hf2]
    simp only [List.length_append, List.length_singleton, e2, dstep, show day - 1 + 1 = day from by omega, Int.sub_self]
    generalize wlo w (wst w k day ds ds.length).lo (day - (wst w k day ds ds.length).t) = a at *
    generalize whi w (wst w k day ds ds.length).hi (day - (wst w k day ds ds.length).t) = b at *
    have q1 : wlo w (max 0 (a - al)) 0 = max 0 (a - al) := by unfold wlo; simp only [Int.zero_mul, Int.add_zero]; omega
    have q2 : whi w (b - al) 0 = b - al := by unfold whi; simp only [Int.zero_mul, Int.add_zero]; omega
    rw [q1, q2]
  · rw [if_neg g]
    have hf2 : firstN (wgo w k day (ds ++ [(⟨k, day - 1, al⟩ : Dw)])) (ds ++ [(⟨k, day - 1, al⟩ : Dw)]).length 0 = some ds.length := by
      cases hc : firstN (wgo w k day (ds ++ [(⟨k, day - 1, al⟩ : Dw)])) (ds ++ [(⟨k, day - 1, al⟩ : Dw)]).length 0 with
      | none =>
        have := firstN_none.1 hc ds.length (by omega) (by rw [List.length_append, List.length_singleton]; omega)
        rw [hlast] at this
        simp at this; omega
      | some i =>
        obtain ⟨-, c2, c3, c4⟩ := firstN_some hc
        rw [List.length_append, List.length_singleton] at c2
        by_cases h : i < ds.length
        · rw [hpre i h] at c3; cases c3
        · rw [show i = ds.length from by omega]
    unfold watD
    rw [hf2]
theorem late_same {n : Int} {ds : List Dw} (w : Wl) (k day : Int) (h : ∀ i, (hi : i < ds.length) → ds[i].m < day) : ∀ j, j ≤ ds.length → wst w k (day + 1) ds j = wst w k day ds j
  | 0, _ => rfl
  | j + 1, hj => by
    have ih := late_same (n := n) w k day h j (by omega)
    have hx : j < ds.length := by omega
    have := h j hx
    have hs : dskip k (day + 1) ds[j] = dskip k day ds[j] := by
      simp only [dskip]
      rw [show decide (day + 1 ≤ ds[j].m) = false from by simp; omega, show decide (day ≤ ds[j].m) = false from by simp; omega]
    simp only [wst, List.getElem?_eq_getElem hx, hs, ih]
/-- A day later, no draws between. -/
theorem later (w : Wl) (hw : WlOK w) (k : Int) {n : Int} (day : Int) (ds : List Dw) (hD : drOK n ds = true) (hd : 1 ≤ day ∧ day < 100000) (hf : firstN (wgo w k day ds) ds.length 0 = none) (h : ∀ i, (hi : i < ds.length) → ds[i].m < day) :
    watD w k (day + 1) ds = .node [.node [I (min w.room (wlo w (wst w k day ds ds.length).lo (day - (wst w k day ds ds.length).t) + w.yl)), I (min w.room (whi w (wst w k day ds ds.length).hi (day - (wst w k day ds ds.length).t) + w.yh))], I 0, I 0] := by
  have hall := firstN_none.1 hf
  have hv := w_inv (k := k) hw hD (show 0 ≤ day ∧ day ≤ 100000 by omega) ds.length (Nat.le_refl _) (fun j hj => hall j (by omega) (by omega))
  have v1 := hv.t0; have v2 := hv.td
  have y0 := hw.y0; have y1 := hw.y1
  have hf2 : firstN (wgo w k (day + 1) ds) ds.length 0 = none := by
    refine firstN_none.2 fun j _ hj => ?_
    have hx : j < ds.length := by omega
    have h1 := hall j (by omega) (by omega)
    have h2 := h j hx
    have hs : dskip k (day + 1) ds[j] = dskip k day ds[j] := by
      simp only [dskip]
      rw [show decide (day + 1 ≤ ds[j].m) = false from by simp; omega, show decide (day ≤ ds[j].m) = false from by simp; omega]
    simp only [wgo, List.getElem?_eq_getElem hx, Option.all_some, late_same (n := n) w k day h j (by omega), hs] at h1 ⊢
    exact h1
  unfold watD
  rw [hf2]
  simp only [late_same (n := n) w k day h ds.length (Nat.le_refl _)]
  generalize wst w k day ds ds.length = s at *
  have e1 : wlo w s.lo (day + 1 - s.t) = min w.room (wlo w s.lo (day - s.t) + w.yl) := by
    unfold wlo
    rw [show day + 1 - s.t = (day - s.t) + 1 from by omega, Int.add_mul, Int.one_mul]
    generalize (day - s.t) * w.yl = x
    omega
  have e2 : whi w s.hi (day + 1 - s.t) = min w.room (whi w s.hi (day - s.t) + w.yh) := by
    unfold whi
    rw [show day + 1 - s.t = (day - s.t) + 1 from by omega, Int.add_mul, Int.one_mul]
    generalize (day - s.t) * w.yh = x
    omega
  rw [e1, e2]
/-! Lifting -/
theorem e37 (ws : List Wl) (ls : List Lg) (k : Nat) (q tm : Int) (hw : ws.length ≤ 9223372036854775807) (hl : ls.length ≤ 9223372036854775807) (hb : big ls) (hL : landOK ws ls = true) (hk : k < ws.length) (hq : 0 ≤ q ∧ q ≤ 1000000000) (ht : 1 ≤ tm ∧ tm ≤ 100) :
    evL FN 37 [landD ws ls, I k, I q, I tm] = some (.node [I ((q * ws[k].dp + 1000000 * tm - 1) / (1000000 * tm)), I 0]) := by
  refine evL_of (F := F37) rfl ?_
  have h21 := e21 ws ls hw hl hb
  rw [hL, if_pos rfl] at h21
  have h94 := e94 k ws hw
  rw [show inR k 0 (ws.length - 1) = true from inR_iff.2 (by omega)] at h94
  have h97 := e97 q 0 1000000000
  rw [show inR q 0 1000000000 = true from inR_iff.2 hq] at h97
  have h97' := e97 tm 1 100
  rw [show inR tm 1 100 = true from inR_iff.2 ht] at h97'
  have hdp : 0 ≤ ws[k].dp ∧ ws[k].dp ≤ 200 := by
    simp only [landOK, Bool.and_eq_true] at hL
    have := List.all_eq_true.1 hL.1.2 _ (List.getElem_mem hk)
    simp only [Wl.ok, Bool.and_eq_true] at this
    exact inR_iff.1 this.1.1.1.1.2
  have m1 : 0 ≤ q * ws[k].dp := Int.mul_nonneg hq.1 hdp.1
  have m2 : q * ws[k].dp ≤ 1000000000 * 200 := Int.mul_le_mul hq.2 hdp.2 hdp.1 (by decide)
  have w1 : IntKind.i64.wrap (q * ws[k].dp) = q * ws[k].dp := wI (by omega)
  have w2 : IntKind.i64.wrap (1000000 * tm) = 1000000 * tm := wI (by omega)
  have h98 := e98 (q * ws[k].dp) (1000000 * tm) (by omega)
  rw [dvd_eq (by omega) (by omega)] at h98
  have hgt : ws[k]? = some ws[k] := List.getElem?_eq_getElem hk
  have hii : D.idx (.int .i64 (k : Int)) ws.length = some k := idx_nat hk
  simp only [landD, wls, lgs, I] at h21 h94 h97 h97' h98 ⊢
  simp [F37, Fn.denV, fits, T.denV, denL, E.den, D.cells, D.den1, binD, unD, h21, h94, h97, h97', h98, outOf, denVK, hii, hgt, partD, Wl.d, w1, w2]
theorem ceil_sp {x K : Int} (hx : 0 ≤ x) (hK : 1 ≤ K) : x ≤ (x + K - 1) / K * K ∧ (x + K - 1) / K * K < x + K ∧ 0 ≤ (x + K - 1) / K ∧ (x + K - 1) / K ≤ x + K - 1 := by
  have h1 := Int.emod_add_mul_ediv (x + K - 1) K
  have h2 := Int.emod_nonneg (x + K - 1) (show K ≠ 0 by omega)
  have h3 := Int.emod_lt_of_pos (x + K - 1) (show 0 < K by omega)
  rw [Int.mul_comm] at h1
  have h4 : 0 ≤ (x + K - 1) / K := Int.ediv_nonneg (by omega) (by omega)
  have h5 : (x + K - 1) / K ≤ x + K - 1 := Int.ediv_le_self _ (by omega)
  generalize (x + K - 1) / K * K = y at *
  omega
end Go.Q
