/- Wells are landmarks: a round of the loop. -/
import Derived.Test.YtpdnchpjolkcfaaKt1
set_option linter.unusedVariables false
set_option linter.unusedSimpArgs false
set_option maxRecDepth 100000
namespace Go.Q
open Go.V
structure By where
  n : Nat
  h : n ≤ 255
def bys (bs : List By) : D := .list (bs.map fun b => [U8 b.n])
def max4 (a b : Int) : Int := max (max (max a (-a)) b) (-b)
def skipS (dx dy : Int) : Bool := (decide (dx = 0) && decide (dy = 0)) || decide (400 < max4 dx dy)
theorem b4_ok (dx dy : Int) (h1 : -100000000 ≤ dx ∧ dx ≤ 100000000) (h2 : -100000000 ≤ dy ∧ dy ≤ 100000000) (P : List D) (hP : P.length = 35) :
    outOf [([E.c (.bool true)], 0), ([E.v 42], 0), ([E.v 41], 0)] (T.denV (evL FN) (P ++ [I dx, I dy]) b4) = some (0, [.bool (skipS dx dy)]) := by
  have n2 : ∀ a b : Int, mxD true (.int .i64 a) (.int .i64 b) = some (.int .i64 (max a b)) := maxD
  have w1 : IntKind.i64.wrap (-dx) = -dx := wrapI (by omega)
  have w2 : IntKind.i64.wrap (-dy) = -dy := wrapI (by omega)
  have w1' : IntKind.i64.wrap (0 - dx) = -dx := by rw [show 0 - dx = -dx from by omega]; exact w1
  have w2' : IntKind.i64.wrap (0 - dy) = -dy := by rw [show 0 - dy = -dy from by omega]; exact w2
  have g : ∀ (xs : List D) (k : Nat), (P ++ xs).getD (35 + k) D.unit = xs.getD k D.unit := fun xs k => by
    simp only [List.getD_eq_getElem?_getD]
    rw [List.getElem?_append_right (by omega)]
    congr 2; omega
  unfold skipS max4
  by_cases a1 : dx = 0
  · by_cases a2 : dy = 0
    · simp [b4, T.denV, denL, E.den, D.den1, binD, unD, outOf, a1, a2, hP, List.getElem?_append_right]
    · have w0 : IntKind.i64.wrap 0 = 0 := by decide
      simp [b4, T.denV, denL, E.den, D.den1, binD, unD, outOf, a1, a2, hP, List.getElem?_append_right, w0, w1, w2, w1', w2', mxLD, n2]
  · simp [b4, T.denV, denL, E.den, D.den1, binD, unD, outOf, a1, hP, List.getElem?_append_right, w1, w2, w1', w2', mxLD, n2]
/-- The four numbers of the directions, with halves a and b of what is turned. -/
structure Cn (dx dy p q : Int) : Prop where
  x : -400 ≤ dx ∧ dx ≤ 400
  y : -400 ≤ dy ∧ dy ≤ 400
  p : -400 ≤ p ∧ p ≤ 400
  q : -400 ≤ q ∧ q ≤ 400
theorem mulC {a b : Int} (ha : -1200 ≤ a ∧ a ≤ 1200) (hb : -1200 ≤ b ∧ b ≤ 1200) : -1440000 ≤ a * b ∧ a * b ≤ 1440000 := mulB ha hb
def max8 (a b c d : Int) : Int := max (max (max (max (max (max (max a (-a)) b) (-b)) c) (-c)) d) (-d)
def badS (dx dy fx fy tx ty : Int) : Bool := decide (fx * ty - fy * tx ≤ 0) || (decide (fx * dy - fy * dx < 0) || (decide (dx * ty - dy * tx < 0) || decide (1000 < max8 fx fy tx ty)))
theorem c4_ok (dx dy fx fy tx ty : Int) (h1 : -1200 ≤ dx ∧ dx ≤ 1200) (h2 : -1200 ≤ dy ∧ dy ≤ 1200) (h3 : -1200 ≤ fx ∧ fx ≤ 1200) (h4 : -1200 ≤ fy ∧ fy ≤ 1200) (h5 : -1200 ≤ tx ∧ tx ≤ 1200) (h6 : -1200 ≤ ty ∧ ty ≤ 1200) (P : List D) (hP : P.length = 35)
    (x37 x38 x39 x40 x41 x42 x43 x44 x46 x47 x48 x50 x51 x52 x54 x55 x56 : D) :
    outOf [([E.c (.bool true)], 0), ([E.c (.bool true)], 0), ([E.c (.bool true)], 0), ([E.v 75], 0)] (T.denV (evL FN) (P ++ [I dx, I dy, x37, x38, x39, x40, x41, x42, x43, x44, I fx, x46, x47, x48, I fy, x50, x51, x52, I tx, x54, x55, x56, I ty]) c4) = some (0, [.bool (badS dx dy fx fy tx ty)]) := by
  have n2 : ∀ a b : Int, mxD true (.int .i64 a) (.int .i64 b) = some (.int .i64 (max a b)) := maxD
  have m1 := mulC h3 h6
  have m2 := mulC h4 h5
  have m3 := mulC h3 h2
  have m4 := mulC h4 h1
  have m5 := mulC h1 h6
  have m6 := mulC h2 h5
  have w1 : IntKind.i64.wrap (fx * ty) = fx * ty := wrapI (by omega)
  have w2 : IntKind.i64.wrap (fy * tx) = fy * tx := wrapI (by omega)
  have w3 : IntKind.i64.wrap (fx * ty - fy * tx) = fx * ty - fy * tx := wrapI (by omega)
  have w4 : IntKind.i64.wrap (fx * dy) = fx * dy := wrapI (by omega)
  have w5 : IntKind.i64.wrap (fy * dx) = fy * dx := wrapI (by omega)
  have w6 : IntKind.i64.wrap (fx * dy - fy * dx) = fx * dy - fy * dx := wrapI (by omega)
  have w7 : IntKind.i64.wrap (dx * ty) = dx * ty := wrapI (by omega)
  have w8 : IntKind.i64.wrap (dy * tx) = dy * tx := wrapI (by omega)
  have w9 : IntKind.i64.wrap (dx * ty - dy * tx) = dx * ty - dy * tx := wrapI (by omega)
  have v1 : IntKind.i64.wrap (0 - fx) = -fx := by rw [show 0 - fx = -fx from by omega]; exact wrapI (by omega)
  have v2 : IntKind.i64.wrap (0 - fy) = -fy := by rw [show 0 - fy = -fy from by omega]; exact wrapI (by omega)
  have v3 : IntKind.i64.wrap (0 - tx) = -tx := by rw [show 0 - tx = -tx from by omega]; exact wrapI (by omega)
  have v4 : IntKind.i64.wrap (0 - ty) = -ty := by rw [show 0 - ty = -ty from by omega]; exact wrapI (by omega)
  have u1 : IntKind.i64.wrap (-fx) = -fx := wrapI (by omega)
  have u2 : IntKind.i64.wrap (-fy) = -fy := wrapI (by omega)
  have u3 : IntKind.i64.wrap (-tx) = -tx := wrapI (by omega)
  have u4 : IntKind.i64.wrap (-ty) = -ty := wrapI (by omega)
  unfold badS max8
  by_cases a1 : fx * ty - fy * tx ≤ 0
  · simp [c4, T.denV, denL, E.den, D.den1, binD, unD, outOf, hP, List.getElem?_append_right, w1, w2, w3, a1]
  by_cases a2 : fx * dy - fy * dx < 0
  · simp [c4, T.denV, denL, E.den, D.den1, binD, unD, outOf, hP, List.getElem?_append_right, w1, w2, w3, w4, w5, w6, a1, a2]
  by_cases a3 : dx * ty - dy * tx < 0
  · simp [c4, T.denV, denL, E.den, D.den1, binD, unD, outOf, hP, List.getElem?_append_right, w1, w2, w3, w4, w5, w6, w7, w8, w9, a1, a2, a3]
  simp [c4, T.denV, denL, E.den, D.den1, binD, unD, outOf, hP, List.getElem?_append_right, w1, w2, w3, w4, w5, w6, w7, w8, w9, v1, v2, v3, v4, u1, u2, u3, u4, mxLD, n2, a1, a2, a3]
end Go.Q
