/- Guide: corners. -/
import Derived.Test.YtcgeghpmnnhcpaaGb0
set_option linter.unusedVariables false
set_option linter.unusedSimpArgs false
namespace Go.Q
open Go.V
theorem wrapI {x : Int} (h : -9223372036854775808 ≤ x ∧ x ≤ 9223372036854775807) : IntKind.i64.wrap x = x := IntWalk.i64_in _ (by omega)
theorem mulB {a b A B : Int} (ha : -A ≤ a ∧ a ≤ A) (hb : -B ≤ b ∧ b ≤ B) : -(A * B) ≤ a * b ∧ a * b ≤ A * B := by
  have hA : 0 ≤ A := by omega
  have h1 := Int.mul_le_mul_of_nonneg_left hb.2 hA
  have h2 := Int.mul_le_mul_of_nonneg_left hb.1 hA
  have h3 : 0 ≤ (A - a) * (B + b) := Int.mul_nonneg (by omega) (by omega)
  have h4 : 0 ≤ (A - a) * (B - b) := Int.mul_nonneg (by omega) (by omega)
  have h5 : 0 ≤ (A + a) * (B - b) := Int.mul_nonneg (by omega) (by omega)
  have h6 : 0 ≤ (A + a) * (B + b) := Int.mul_nonneg (by omega) (by omega)
  simp only [Int.sub_mul, Int.mul_sub, Int.add_mul, Int.mul_add] at h3 h4 h5 h6
  omega
/-- A corner. -/
structure Cr where
  x : Int
  y : Int
  p : Int
  deriving DecidableEq
def Cr.d (c : Cr) : List D := [I c.x, I c.y, I c.p]
def cross (g h : Hf) : Cr :=
  let x := g.c * h.b - h.c * g.b
  let y := g.a * h.c - h.a * g.c
  let p := g.a * h.b - h.a * g.b
  if p < 0 then ⟨-x, -y, -p⟩ else ⟨x, y, p⟩
def Cr.isIn (c : Cr) (h : Hf) : Bool := decide (h.a * c.x + h.b * c.y ≤ h.c * c.p)
structure Hf.In (h : Hf) : Prop where
  a : -1000 ≤ h.a ∧ h.a ≤ 1000
  b : -1000 ≤ h.b ∧ h.b ≤ 1000
  c : -100000000000 ≤ h.c ∧ h.c ≤ 100000000000
structure Cr.In (c : Cr) : Prop where
  x : -200000000000000 ≤ c.x ∧ c.x ≤ 200000000000000
  y : -200000000000000 ≤ c.y ∧ c.y ≤ 200000000000000
  p : -2000000 ≤ c.p ∧ c.p ≤ 2000000
theorem Hf.In.of {h : Hf} (e : h.ok = true) : h.In := by
  simp [Hf.ok, inR] at e
  exact ⟨by omega, by omega, by omega⟩
theorem crossIn {g h : Hf} (hg : g.In) (hh : h.In) : (cross g h).In := by
  have h1 := mulB hg.c hh.b
  have h2 := mulB hh.c hg.b
  have h3 := mulB hg.a hh.c
  have h4 := mulB hh.a hg.c
  have h5 := mulB hg.a hh.b
  have h6 := mulB hh.a hg.b
  unfold cross
  simp only
  split
  · exact ⟨by simp only; omega, by simp only; omega, by simp only; omega⟩
  · exact ⟨by simp only; omega, by simp only; omega, by simp only; omega⟩
theorem e93 {g h : Hf} (hg : g.In) (hh : h.In) : evL FN 93 [.node g.d, .node h.d] = some (.node [.node (cross g h).d, .bool (decide (0 < (cross g h).p))]) := by
  refine evL_of (F := F93) rfl ?_
  have h1 := mulB hg.c hh.b
  have h2 := mulB hh.c hg.b
  have h3 := mulB hg.a hh.c
  have h4 := mulB hh.a hg.c
  have h5 := mulB hg.a hh.b
  have h6 := mulB hh.a hg.b
  have w1 := wrapI (x := g.c * h.b) (by omega)
  have w2 := wrapI (x := h.c * g.b) (by omega)
  have w3 := wrapI (x := g.a * h.c) (by omega)
  have w4 := wrapI (x := h.a * g.c) (by omega)
  have w5 := wrapI (x := g.a * h.b) (by omega)
  have w6 := wrapI (x := h.a * g.b) (by omega)
  have v1 := wrapI (x := g.c * h.b - h.c * g.b) (by omega)
  have v2 := wrapI (x := g.a * h.c - h.a * g.c) (by omega)
  have v3 := wrapI (x := g.a * h.b - h.a * g.b) (by omega)
  have u1 := wrapI (x := -(g.c * h.b - h.c * g.b)) (by omega)
  have u2 := wrapI (x := -(g.a * h.c - h.a * g.c)) (by omega)
  have u3 := wrapI (x := -(g.a * h.b - h.a * g.b)) (by omega)
  by_cases hp : g.a * h.b - h.a * g.b < 0
  · simp [cross, hp, F93, Fn.denV, fits, T.denV, denVK, denL, E.den, D.cells, Hf.d, Cr.d, D.den1, binD, unD, outOf, w1, w2, w3, w4, w5, w6, v1, v2, v3, u1, u2, u3]
  · simp [cross, hp, F93, Fn.denV, fits, T.denV, denVK, denL, E.den, D.cells, Hf.d, Cr.d, D.den1, binD, unD, outOf, w1, w2, w3, w4, w5, w6, v1, v2, v3, u1, u2, u3]
theorem e94 {c : Cr} {h : Hf} (hc : c.In) (hh : h.In) : evL FN 94 [.node c.d, .node h.d] = some (.bool (c.isIn h)) := by
  refine evL_of (F := F94) rfl ?_
  have h1 := mulB hh.a hc.x
  have h2 := mulB hh.b hc.y
  have h3 := mulB hh.c hc.p
  have w1 := wrapI (x := h.a * c.x) (by omega)
  have w2 := wrapI (x := h.b * c.y) (by omega)
  have w3 := wrapI (x := h.c * c.p) (by omega)
  have w4 := wrapI (x := h.a * c.x + h.b * c.y) (by omega)
  simp [Cr.isIn, F94, Fn.denV, fits, T.denV, denVK, denL, E.den, D.cells, Hf.d, Cr.d, D.den1, binD, unD, outOf, w1, w2, w3, w4]
def sides (a b c d : Int) : List Hf := [⟨1, 0, b⟩, ⟨-1, 0, -a⟩, ⟨0, 1, d⟩, ⟨0, -1, -c⟩]
theorem e64 {a b c d : Int} (ha : a ≠ -9223372036854775808) (hc : c ≠ -9223372036854775808) (Ha : -9223372036854775808 ≤ a ∧ a ≤ 9223372036854775807) (Hc : -9223372036854775808 ≤ c ∧ c ≤ 9223372036854775807) :
    evL FN 64 [.node [I a, I b], .node [I c, I d]] = some (hfs (sides a b c d)) := by
  refine evL_of (F := F64) rfl ?_
  have w1 := wrapI (x := -a) (by omega)
  have w2 := wrapI (x := -c) (by omega)
  simp [sides, hfs, F64, Fn.denV, fits, T.denV, denVK, denL, E.den, D.cells, Hf.d, D.den1, binD, unD, outOf, w1, w2, D.flat, D.flat0, fillD]

theorem e102 {x y f : Int} (hx : -10000000 ≤ x ∧ x ≤ 10000000) (hy : -10000000 ≤ y ∧ y ≤ 10000000) (hf : 0 ≤ f ∧ f ≤ 10000000) :
    evL FN 102 [I x, I y, I f] = some (hfs (sides (x - f) (x + f) (y - f) (y + f))) := by
  refine evL_of (F := F102) rfl ?_
  have w1 := wrapI (x := x + f) (by omega)
  have w2 := wrapI (x := f - x) (by omega)
  have w3 := wrapI (x := y + f) (by omega)
  have w4 := wrapI (x := f - y) (by omega)
  simp [sides, hfs, F102, Fn.denV, fits, T.denV, denVK, denL, E.den, D.cells, Hf.d, D.den1, binD, unD, outOf, w1, w2, w3, w4, D.flat, D.flat0, fillD]
  omega
/-- Whether the edges of two halves meet in a corner that is in all of them. -/
def good (hs : List Hf) (g h : Hf) : Bool := decide (0 < (cross g h).p) && hs.all (cross g h).isIn
def hasPl (hs : List Hf) : Bool := !(List.range hs.length).all fun i => (hs.take i).all fun h => !good hs (hs.getD i ⟨0, 0, 0⟩) h
theorem e66c (c : Cr) (hs : List Hf) (hc : c.In) (hh : ∀ h ∈ hs, h.In) (hl : hs.length < 9223372036854775807) : evL FN 66 [hfs hs, .fn 94 [.node c.d] []] = some (.bool (hs.all c.isIn)) := by
  refine evL_of (F := F66) rfl ?_
  simp only [F66, Fn.denV, fits, T.denV, denVK, denL, E.den, hfs, D.den1, List.getD_cons_zero, List.getD_cons_succ, Bool.and_true, Bool.and_self, if_true, List.cons_append, List.nil_append, List.length_map]
  rw [iter_all (p := c.isIn) (t := 0) (u := 1) (xs := hs)]
  · cases hs.all c.isIn <;> simp [denVK, T.denV, E.den]
  · intro i h hi
    obtain ⟨hlt, rfl⟩ := List.getElem?_eq_some_iff.1 hi
    have h94 := e94 hc (hh hs[i] (List.getElem_mem hlt))
    simp only [Hf.d] at h94
    simp [binD, hlt, idx_nat hlt, hi, Hf.d, partD, D.cells, h94, D.flat, D.flat0, unD, wrapN (show i < 9223372036854775807 by omega)]
    cases c.isIn hs[i] <;> simp [outOf, denL, E.den]
  · simp [binD, outOf, denL]
theorem upto_nat {n : Nat} {i : Nat} (h : i ≤ n) : (I i).upto n = some i := by
  have : (i : Int) ≤ n := by omega
  simp [I, D.upto, this]
theorem e54 (hs : List Hf) (hh : ∀ h ∈ hs, h.In) (hl : hs.length < 9223372036854775807) : evL FN 54 [hfs hs] = some (.bool (hasPl hs)) := by
  refine evL_of (F := F54) rfl ?_
  simp only [F54, Fn.denV, fits, T.denV, denVK, denL, E.den, hfs, D.den1, List.getD_cons_zero, List.getD_cons_succ, Bool.and_true, Bool.and_self, if_true, List.cons_append, List.nil_append, List.length_map]
  rw [iter_all (p := fun i => (hs.take i).all fun h => !good hs (hs.getD i ⟨0, 0, 0⟩) h) (t := 0) (u := 1) (xs := List.range hs.length)]
  · unfold hasPl
    cases (List.range hs.length).all fun i => (hs.take i).all fun h => !good hs (hs.getD i ⟨0, 0, 0⟩) h <;> simp [denVK, T.denV, E.den]
  · intro i x hi
    obtain ⟨hlt, rfl⟩ := List.getElem?_eq_some_iff.1 hi
    simp only [List.length_range] at hlt
    simp only [List.getElem_range]
    have hle : (i : Int) < (hs.length : Int) := by omega
    have hx : hs.getD i ⟨0, 0, 0⟩ = hs[i] := by simp [hlt]
    rw [hx]
    have h3 : ∀ l : List Hf, l.all ((fun y => y.length == 3) ∘ Hf.d) = true := fun l => by simp [Hf.d]
    simp [-List.map_take, ← List.map_take, h3, Function.comp_def, binD, hlt, idx_nat hlt, upto_nat (Nat.le_of_lt hlt), Hf.d, partD, D.cells, D.flat, D.flat0, unD, wrapN (show i < 9223372036854775807 by omega)]
    rw [iter_all (p := fun h => !good hs hs[i] h) (t := 0) (u := 1) (xs := hs.take i)]
    · by_cases e : ((List.take i hs).all fun h => !good hs hs[i] h) = true
      · have e' := e
        simp only [List.all_eq_true, Bool.not_eq_true'] at e'
        rw [if_pos e, if_pos e']
        simp [outOf, denVK, T.denV, denL, E.den, D.den1, binD, wrapN (show i < 9223372036854775807 by omega)]
      · have e' := e
        simp only [List.all_eq_true, Bool.not_eq_true'] at e'
        rw [if_neg e, if_neg e']
        simp [outOf, denVK, T.denV, denL, E.den]
    · intro j h hj
      obtain ⟨hlj, rfl⟩ := List.getElem?_eq_some_iff.1 hj
      have hji : j < i := by rw [List.length_take] at hlj; omega
      have hjs : j < hs.length := by omega
      have e93' := e93 (hh hs[i] (List.getElem_mem hlt)) (hh hs[j] (List.getElem_mem hjs))
      have e66' := e66c (cross hs[i] hs[j]) hs (crossIn (hh hs[i] (List.getElem_mem hlt)) (hh hs[j] (List.getElem_mem hjs))) hh hl
      simp only [Hf.d, Cr.d, hfs] at e93' e66'
      have hjm : j < min i hs.length := by omega
      have hj' : (List.take i hs)[j]? = some hs[j] := by rw [hj, List.getElem_take]
      simp only [List.getElem_take, good]
      generalize hs.all (cross hs[i] hs[j]).isIn = b at e66' ⊢
      simp [-List.map_take, ← List.map_take, h3, Function.comp_def, binD, hji, hjs, hlt, hjm, idx_nat hjm, hj', Hf.d, partD, D.cells, D.flat, D.flat0, unD, wrapN (show j < 9223372036854775807 by omega), e93', e66']
      by_cases hp : 0 < (cross hs[i] hs[j]).p
      · cases b <;> simp [hp, outOf, denL, E.den, D.cells, denVK, T.denV, D.den1, binD, wrapN (show j < 9223372036854775807 by omega)]
      · simp [hp, outOf, denL, E.den, D.cells, denVK, T.denV, D.den1, binD, wrapN (show j < 9223372036854775807 by omega)]
    · simp [binD, outOf, denL]
  · simp [binD, outOf, denL]
end Go.Q
