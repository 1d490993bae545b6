/- Ported: guide (Gb0 to Gb2) -/
import Derived.Test.YtimbhebamjnfmaaTqd
import Derived.Test.YtimbhebamjnfmaaJL
set_option linter.unusedVariables false
set_option linter.unusedSimpArgs false
set_option maxRecDepth 100000
namespace Go.Q.G
open Go.V
def inR (n lo hi : Int) : Bool := decide (lo ≤ n) && decide (n ≤ hi)
theorem e156 (n lo hi : Int) : evL FN 156 [I n, I lo, I hi] = some (.bool (inR n lo hi)) := by
  refine evL_of (F := F156) rfl ?_
  by_cases h : lo ≤ n <;> simp [inR, F156, Fn.denV, fits, T.denV, denVK, denL, E.den, D.den1, binD, outOf, h]
def inS (lo hi a b : Int) : Bool := decide (a ≤ lo) && decide (lo ≤ hi) && decide (hi ≤ b)
theorem e145 (lo hi a b : Int) : evL FN 145 [.node [I lo, I hi], I a, I b] = some (.bool (inS lo hi a b)) := by
  refine evL_of (F := F145) rfl ?_
  by_cases h : a ≤ lo <;> by_cases h' : lo ≤ hi <;> simp [inS, inR, F145, Fn.denV, fits, T.denV, denVK, denL, E.den, D.cells, D.den1, binD, outOf, h, h']
/-- A half: its numbers. -/
structure Hf where
  a : Int
  b : Int
  c : Int
  deriving DecidableEq
def Hf.d (h : Hf) : List D := [I h.a, I h.b, I h.c]
def hfs (hs : List Hf) : D := .list (hs.map Hf.d)
def Hf.ok (h : Hf) : Bool := inR h.a (-1000) 1000 && inR h.b (-1000) 1000 && (h.a != 0 || h.b != 0) && inR h.c (-100000000000) 100000000000
theorem e149 (h : Hf) : evL FN 149 [.node h.d] = some (.bool h.ok) := by
  refine evL_of (F := F149) rfl ?_
  unfold Hf.ok
  cases e1 : inR h.a (-1000) 1000 <;> cases e2 : inR h.b (-1000) 1000 <;> cases e3 : h.a != 0 <;> cases e4 : h.b != 0 <;>
    simp [F149, Fn.denV, fits, T.denV, denVK, denL, E.den, D.cells, Hf.d, D.den1, binD, outOf, e156, e1, e2, e3, e4]
theorem e148 (hs : List Hf) (hl : hs.length < 9223372036854775807) : evL FN 148 [hfs hs, .fn 149 [] []] = some (.bool (hs.all Hf.ok)) := by
  refine evL_of (F := F148) rfl ?_
  simp only [F148, Fn.denV, fits, T.denV, denVK, denL, E.den, hfs, D.den1, List.getD_cons_zero, List.getD_cons_succ, Bool.and_true, Bool.and_self, if_true, List.cons_append, List.nil_append, List.length_map]
  rw [iter_all (p := Hf.ok) (t := 0) (u := 1) (xs := hs)]
  · cases hs.all Hf.ok <;> simp [denVK, T.denV, E.den]
  · intro i h hi
    obtain ⟨hlt, rfl⟩ := List.getElem?_eq_some_iff.1 hi
    have h67 := e149 (hs[i])
    simp only [Hf.d] at h67
    simp [binD, hlt, idx_nat hlt, hi, Hf.d, partD, D.cells, h67, D.flat, D.flat0, unD, wrapN (show i < 9223372036854775807 by omega)]
    cases (hs[i]).ok <;> simp [outOf, denL, E.den]
  · simp [binD, outOf, denL]
theorem wrapI {x : Int} (h : -9223372036854775808 ≤ x ∧ x ≤ 9223372036854775807) : IntKind.i64.wrap x = x := IntWalk.i64_in _ (by omega)
theorem mulB {a b A B : Int} (ha : -A ≤ a ∧ a ≤ A) (hb : -B ≤ b ∧ b ≤ B) : -(A * B) ≤ a * b ∧ a * b ≤ A * B := by
  have hA : 0 ≤ A := by omega
  have h1 := Int.mul_le_mul_of_nonneg_left hb.2 hA
  have h2 := Int.mul_le_mul_of_nonneg_left hb.1 hA
  have h3 : 0 ≤ (A - a) * (B + b) := Int.mul_nonneg (by omega) (by omega)
  have h4 : 0 ≤ (A - a) * (B - b) := Int.mul_nonneg (by omega) (by omega)
  have h5 : 0 ≤ (A + a) * (B - b) := Int.mul_nonneg (by omega) (by omega)
  have h6 : 0 ≤ (A + a) * (B + b) := Int.mul_nonneg (by omega) (by omega)
  simp only [Int.sub_mul, Int.mul_sub, Int.add_mul, Int.mul_add] at h3 h4 h5 h6
  omega
/-- A corner. -/
structure Cr where
  x : Int
  y : Int
  p : Int
  deriving DecidableEq
def Cr.d (c : Cr) : List D := [I c.x, I c.y, I c.p]
def cross (g h : Hf) : Cr :=
  let x := g.c * h.b - h.c * g.b
  let y := g.a * h.c - h.a * g.c
  let p := g.a * h.b - h.a * g.b
  if p < 0 then ⟨-x, -y, -p⟩ else ⟨x, y, p⟩
def Cr.isIn (c : Cr) (h : Hf) : Bool := decide (h.a * c.x + h.b * c.y ≤ h.c * c.p)
structure Hf.In (h : Hf) : Prop where
  a : -1000 ≤ h.a ∧ h.a ≤ 1000
  b : -1000 ≤ h.b ∧ h.b ≤ 1000
  c : -100000000000 ≤ h.c ∧ h.c ≤ 100000000000
structure Cr.In (c : Cr) : Prop where
  x : -200000000000000 ≤ c.x ∧ c.x ≤ 200000000000000
  y : -200000000000000 ≤ c.y ∧ c.y ≤ 200000000000000
  p : -2000000 ≤ c.p ∧ c.p ≤ 2000000
theorem Hf.In.of {h : Hf} (e : h.ok = true) : h.In := by
  simp [Hf.ok, inR] at e
  exact ⟨by omega, by omega, by omega⟩
theorem crossIn {g h : Hf} (hg : g.In) (hh : h.In) : (cross g h).In := by
  have h1 := mulB hg.c hh.b
  have h2 := mulB hh.c hg.b
  have h3 := mulB hg.a hh.c
  have h4 := mulB hh.a hg.c
  have h5 := mulB hg.a hh.b
  have h6 := mulB hh.a hg.b
  unfold cross
  simp only
  split
  · exact ⟨by simp only; omega, by simp only; omega, by simp only; omega⟩
  · exact ⟨by simp only; omega, by simp only; omega, by simp only; omega⟩
theorem e166 {g h : Hf} (hg : g.In) (hh : h.In) : evL FN 166 [.node g.d, .node h.d] = some (.node [.node (cross g h).d, .bool (decide (0 < (cross g h).p))]) := by
  refine evL_of (F := F166) rfl ?_
  have h1 := mulB hg.c hh.b
  have h2 := mulB hh.c hg.b
  have h3 := mulB hg.a hh.c
  have h4 := mulB hh.a hg.c
  have h5 := mulB hg.a hh.b
  have h6 := mulB hh.a hg.b
  have w1 := wrapI (x := g.c * h.b) (by omega)
  have w2 := wrapI (x := h.c * g.b) (by omega)
  have w3 := wrapI (x := g.a * h.c) (by omega)
  have w4 := wrapI (x := h.a * g.c) (by omega)
  have w5 := wrapI (x := g.a * h.b) (by omega)
  have w6 := wrapI (x := h.a * g.b) (by omega)
  have v1 := wrapI (x := g.c * h.b - h.c * g.b) (by omega)
  have v2 := wrapI (x := g.a * h.c - h.a * g.c) (by omega)
  have v3 := wrapI (x := g.a * h.b - h.a * g.b) (by omega)
  have u1 := wrapI (x := -(g.c * h.b - h.c * g.b)) (by omega)
  have u2 := wrapI (x := -(g.a * h.c - h.a * g.c)) (by omega)
  have u3 := wrapI (x := -(g.a * h.b - h.a * g.b)) (by omega)
  by_cases hp : g.a * h.b - h.a * g.b < 0
  · simp [cross, hp, F166, Fn.denV, fits, T.denV, denVK, denL, E.den, D.cells, Hf.d, Cr.d, D.den1, binD, unD, outOf, w1, w2, w3, w4, w5, w6, v1, v2, v3, u1, u2, u3]
  · simp [cross, hp, F166, Fn.denV, fits, T.denV, denVK, denL, E.den, D.cells, Hf.d, Cr.d, D.den1, binD, unD, outOf, w1, w2, w3, w4, w5, w6, v1, v2, v3, u1, u2, u3]
theorem e167 {c : Cr} {h : Hf} (hc : c.In) (hh : h.In) : evL FN 167 [.node c.d, .node h.d] = some (.bool (c.isIn h)) := by
  refine evL_of (F := F167) rfl ?_
  have h1 := mulB hh.a hc.x
  have h2 := mulB hh.b hc.y
  have h3 := mulB hh.c hc.p
  have w1 := wrapI (x := h.a * c.x) (by omega)
  have w2 := wrapI (x := h.b * c.y) (by omega)
  have w3 := wrapI (x := h.c * c.p) (by omega)
  have w4 := wrapI (x := h.a * c.x + h.b * c.y) (by omega)
  simp [Cr.isIn, F167, Fn.denV, fits, T.denV, denVK, denL, E.den, D.cells, Hf.d, Cr.d, D.den1, binD, unD, outOf, w1, w2, w3, w4]
def sides (a b c d : Int) : List Hf := [⟨1, 0, b⟩, ⟨-1, 0, -a⟩, ⟨0, 1, d⟩, ⟨0, -1, -c⟩]
theorem e146 {a b c d : Int} (ha : a ≠ -9223372036854775808) (hc : c ≠ -9223372036854775808) (Ha : -9223372036854775808 ≤ a ∧ a ≤ 9223372036854775807) (Hc : -9223372036854775808 ≤ c ∧ c ≤ 9223372036854775807) :
    evL FN 146 [.node [I a, I b], .node [I c, I d]] = some (hfs (sides a b c d)) := by
  refine evL_of (F := F146) rfl ?_
  have w1 := wrapI (x := -a) (by omega)
  have w2 := wrapI (x := -c) (by omega)
  simp [sides, hfs, F146, Fn.denV, fits, T.denV, denVK, denL, E.den, D.cells, Hf.d, D.den1, binD, unD, outOf, w1, w2, D.flat, D.flat0, fillD]

/-- Whether the edges of two halves meet in a corner that is in all of them. -/
def good (hs : List Hf) (g h : Hf) : Bool := decide (0 < (cross g h).p) && hs.all (cross g h).isIn
def hasPl (hs : List Hf) : Bool := !(List.range hs.length).all fun i => (hs.take i).all fun h => !good hs (hs.getD i ⟨0, 0, 0⟩) h
theorem e148c (c : Cr) (hs : List Hf) (hc : c.In) (hh : ∀ h ∈ hs, h.In) (hl : hs.length < 9223372036854775807) : evL FN 148 [hfs hs, .fn 167 [.node c.d] []] = some (.bool (hs.all c.isIn)) := by
  refine evL_of (F := F148) rfl ?_
  simp only [F148, Fn.denV, fits, T.denV, denVK, denL, E.den, hfs, D.den1, List.getD_cons_zero, List.getD_cons_succ, Bool.and_true, Bool.and_self, if_true, List.cons_append, List.nil_append, List.length_map]
  rw [iter_all (p := c.isIn) (t := 0) (u := 1) (xs := hs)]
  · cases hs.all c.isIn <;> simp [denVK, T.denV, E.den]
  · intro i h hi
    obtain ⟨hlt, rfl⟩ := List.getElem?_eq_some_iff.1 hi
    have h94 := e167 hc (hh hs[i] (List.getElem_mem hlt))
    simp only [Hf.d] at h94
    simp [binD, hlt, idx_nat hlt, hi, Hf.d, partD, D.cells, h94, D.flat, D.flat0, unD, wrapN (show i < 9223372036854775807 by omega)]
    cases c.isIn hs[i] <;> simp [outOf, denL, E.den]
  · simp [binD, outOf, denL]
theorem upto_nat {n : Nat} {i : Nat} (h : i ≤ n) : (I i).upto n = some i := by
  have : (i : Int) ≤ n := by omega
  simp [I, D.upto, this]
theorem e108 (hs : List Hf) (hh : ∀ h ∈ hs, h.In) (hl : hs.length < 9223372036854775807) : evL FN 108 [hfs hs] = some (.bool (hasPl hs)) := by
  refine evL_of (F := F108) rfl ?_
  simp only [F108, Fn.denV, fits, T.denV, denVK, denL, E.den, hfs, D.den1, List.getD_cons_zero, List.getD_cons_succ, Bool.and_true, Bool.and_self, if_true, List.cons_append, List.nil_append, List.length_map]
  rw [iter_all (p := fun i => (hs.take i).all fun h => !good hs (hs.getD i ⟨0, 0, 0⟩) h) (t := 0) (u := 1) (xs := List.range hs.length)]
  · unfold hasPl
    cases (List.range hs.length).all fun i => (hs.take i).all fun h => !good hs (hs.getD i ⟨0, 0, 0⟩) h <;> simp [denVK, T.denV, E.den]
  · intro i x hi
    obtain ⟨hlt, rfl⟩ := List.getElem?_eq_some_iff.1 hi
    simp only [List.length_range] at hlt
    simp only [List.getElem_range]
    have hle : (i : Int) < (hs.length : Int) := by omega
    have hx : hs.getD i ⟨0, 0, 0⟩ = hs[i] := by simp [hlt]
    rw [hx]
    have h3 : ∀ l : List Hf, l.all ((fun y => y.length == 3) ∘ Hf.d) = true := fun l => by simp [Hf.d]
    simp [-List.map_take, ← List.map_take, h3, Function.comp_def, binD, hlt, idx_nat hlt, upto_nat (Nat.le_of_lt hlt), Hf.d, partD, D.cells, D.flat, D.flat0, unD, wrapN (show i < 9223372036854775807 by omega)]
    rw [iter_all (p := fun h => !good hs hs[i] h) (t := 0) (u := 1) (xs := hs.take i)]
    · by_cases e : ((List.take i hs).all fun h => !good hs hs[i] h) = true
      · have e' := e
        simp only [List.all_eq_true, Bool.not_eq_true'] at e'
        rw [if_pos e, if_pos e']
        simp [outOf, denVK, T.denV, denL, E.den, D.den1, binD, wrapN (show i < 9223372036854775807 by omega)]
      · have e' := e
        simp only [List.all_eq_true, Bool.not_eq_true'] at e'
        rw [if_neg e, if_neg e']
        simp [outOf, denVK, T.denV, denL, E.den]
    · intro j h hj
      obtain ⟨hlj, rfl⟩ := List.getElem?_eq_some_iff.1 hj
      have hji : j < i := by rw [List.length_take] at hlj; omega
      have hjs : j < hs.length := by omega
      have e166' := e166 (hh hs[i] (List.getElem_mem hlt)) (hh hs[j] (List.getElem_mem hjs))
      have e148' := e148c (cross hs[i] hs[j]) hs (crossIn (hh hs[i] (List.getElem_mem hlt)) (hh hs[j] (List.getElem_mem hjs))) hh hl
      simp only [Hf.d, Cr.d, hfs] at e166' e148'
      have hjm : j < min i hs.length := by omega
      have hj' : (List.take i hs)[j]? = some hs[j] := by rw [hj, List.getElem_take]
      simp only [List.getElem_take, good]
      generalize hs.all (cross hs[i] hs[j]).isIn = b at e148' ⊢
      simp [-List.map_take, ← List.map_take, h3, Function.comp_def, binD, hji, hjs, hlt, hjm, idx_nat hjm, hj', Hf.d, partD, D.cells, D.flat, D.flat0, unD, wrapN (show j < 9223372036854775807 by omega), e166', e148']
      by_cases hp : 0 < (cross hs[i] hs[j]).p
      · cases b <;> simp [hp, outOf, denL, E.den, D.cells, denVK, T.denV, D.den1, binD, wrapN (show j < 9223372036854775807 by omega)]
      · simp [hp, outOf, denL, E.den, D.cells, denVK, T.denV, D.den1, binD, wrapN (show j < 9223372036854775807 by omega)]
    · simp [binD, outOf, denL]
  · simp [binD, outOf, denL]
/-- A trek: its spans of days, east and north. -/
structure Tk where
  d : Int
  d' : Int
  e : Int
  e' : Int
  n : Int
  n' : Int
  deriving DecidableEq
def Tk.c (t : Tk) : List D := [I t.d, I t.d', I t.e, I t.e', I t.n, I t.n']
def Tk.ok (t : Tk) : Bool := inS t.d t.d' 0 60 && inS t.e t.e' (-100000) 100000 && inS t.n t.n' (-100000) 100000
theorem e121 (t : Tk) : evL FN 121 [.node t.c] = some (.bool t.ok) := by
  refine evL_of (F := F121) rfl ?_
  unfold Tk.ok
  cases e1 : inS t.d t.d' 0 60 <;> cases e2 : inS t.e t.e' (-100000) 100000 <;>
    simp [F121, Fn.denV, fits, T.denV, denVK, denL, E.den, D.cells, Tk.c, D.den1, binD, outOf, e145, e1, e2]
def tks (ts : List Tk) : D := .list (ts.map Tk.c)
theorem e120 (ts : List Tk) (hl : ts.length < 9223372036854775807) : evL FN 120 [tks ts, .fn 121 [] []] = some (.bool (ts.all Tk.ok)) := by
  refine evL_of (F := F120) rfl ?_
  simp only [F120, Fn.denV, fits, T.denV, denVK, denL, E.den, tks, D.den1, List.getD_cons_zero, List.getD_cons_succ, Bool.and_true, Bool.and_self, if_true, List.cons_append, List.nil_append, List.length_map]
  rw [iter_all (p := Tk.ok) (t := 0) (u := 1) (xs := ts)]
  · cases ts.all Tk.ok <;> simp [denVK, T.denV, E.den]
  · intro i t hi
    obtain ⟨hlt, rfl⟩ := List.getElem?_eq_some_iff.1 hi
    have h61 := e121 (ts[i])
    simp only [Tk.c] at h61
    simp [binD, hlt, idx_nat hlt, hi, Tk.c, partD, D.cells, h61, D.flat, D.flat0, unD, wrapN (show i < 9223372036854775807 by omega)]
    cases (ts[i]).ok <;> simp [outOf, denL, E.den]
  · simp [binD, outOf, denL]
/-- Whether the directions of two halves are the same. -/
def Hf.par (g h : Hf) : Bool := decide (g.a = h.a) && decide (g.b = h.b)
def okA (hs : List Hf) : Bool := decide (4 ≤ hs.length) && decide (hs.length ≤ 40) && hs.all Hf.ok && (List.zipWith Hf.par hs (sides 0 0 0 0)).all id
theorem e152 (hs : List Hf) (hl : hs.length < 9223372036854775807) : evL FN 152 [.node [hfs hs]] = some (.bool (okA hs)) := by
  refine evL_of (F := F152) rfl ?_
  have h64 := e146 (a := 0) (b := 0) (c := 0) (d := 0) (by omega) (by omega) (by omega) (by omega)
  have h66 := e148 hs hl
  simp only [hfs, sides, List.map_cons, List.map_nil, Hf.d, I] at h64
  simp only [hfs] at h66
  by_cases h1 : (hs.length : Int) < 4
  · have h1' : ¬ 4 ≤ hs.length := by omega
    simp [okA, h1', F152, Fn.denV, fits, T.denV, denVK, denL, E.den, hfs, D.cells, D.den1, binD, outOf, h64, h1]
  by_cases h2 : 40 < (hs.length : Int)
  · have h2' : ¬ hs.length ≤ 40 := by omega
    simp [okA, h2', F152, Fn.denV, fits, T.denV, denVK, denL, E.den, hfs, D.cells, D.den1, binD, outOf, h64, h1, h2]
  unfold okA
  generalize hs.all Hf.ok = b at h66 ⊢
  cases b
  · simp [F152, Fn.denV, fits, T.denV, denVK, denL, E.den, hfs, D.cells, D.den1, binD, unD, outOf, h64, h66, h1, h2]
  obtain ⟨a0, a1, a2, a3, l, rfl⟩ : ∃ a0 a1 a2 a3 l, hs = a0 :: a1 :: a2 :: a3 :: l := by
    match hs, h1 with
    | a0 :: a1 :: a2 :: a3 :: l, _ => exact ⟨a0, a1, a2, a3, l, rfl⟩
    | [], h => exact absurd (by simp) h
    | [_], h => exact absurd (by simp) h
    | [_, _], h => exact absurd (by simp) h
    | [_, _, _], h => exact absurd (by simp) h
  simp only [List.map_cons, List.length_cons] at h66
  simp only [List.length_cons] at h1 h2 hl
  have h1' : ¬ (l.length : Int) + 1 + 1 + 1 + 1 < 4 := by omega
  have h2' : ¬ 40 < (l.length : Int) + 1 + 1 + 1 + 1 := by omega
  have h3 : l.length + 1 + 1 + 1 + 1 ≤ 40 := by omega
  have k0 : (0 : Int) < l.length + 1 + 1 + 1 + 1 := by omega
  have k1 : (1 : Int) < l.length + 1 + 1 + 1 + 1 := by omega
  have k2 : (2 : Int) < l.length + 1 + 1 + 1 + 1 := by omega
  have k3 : (3 : Int) < l.length + 1 + 1 + 1 + 1 := by omega
  simp [F152, Fn.denV, fits, T.denV, denVK, denL, E.den, hfs, D.cells, D.den1, binD, unD, outOf, h64, h66, h1', h2', h3]
  rw [iter_all (p := fun q : Hf × Hf => q.1.par q.2) (t := 0) (u := 1) (xs := [(a0, ⟨1, 0, 0⟩), (a1, ⟨-1, 0, 0⟩), (a2, ⟨0, 1, 0⟩), (a3, ⟨0, -1, 0⟩)])]
  · rw [show sides 0 0 0 0 = [⟨1, 0, 0⟩, ⟨-1, 0, 0⟩, ⟨0, 1, 0⟩, ⟨0, -1, 0⟩] from rfl]
    simp only [List.all_cons, List.all_nil, List.zipWith_cons_cons, List.zipWith_nil_right, id, Bool.and_true]
    generalize (a0.par ⟨1, 0, 0⟩ && _) = b
    cases b <;> simp [denVK, T.denV, E.den]
  · intro i q hi
    match i, hi with
    | 0, hi =>
      obtain rfl : (a0, ⟨1, 0, 0⟩) = q := by simpa using hi
      have w := wrapN (n := 0) (by omega)
      by_cases c1 : a0.a = 1 <;> by_cases c2 : a0.b = 0 <;> simp [Hf.par, c1, c2, I, binD, D.idx, partD, D.cells, Hf.d, outOf, denL, E.den, denVK, T.denV, D.den1, k0, k1, k2, k3] <;> decide
    | 1, hi =>
      obtain rfl : (a1, ⟨-1, 0, 0⟩) = q := by simpa using hi
      have w := wrapN (n := 1) (by omega)
      by_cases c1 : a1.a = -1 <;> by_cases c2 : a1.b = 0 <;> simp [Hf.par, c1, c2, I, binD, D.idx, partD, D.cells, Hf.d, outOf, denL, E.den, denVK, T.denV, D.den1, k0, k1, k2, k3] <;> decide
    | 2, hi =>
      obtain rfl : (a2, ⟨0, 1, 0⟩) = q := by simpa using hi
      by_cases c1 : a2.a = 0 <;> by_cases c2 : a2.b = 1 <;> simp [Hf.par, c1, c2, I, binD, D.idx, partD, D.cells, Hf.d, outOf, denL, E.den, denVK, T.denV, D.den1, k0, k1, k2, k3] <;> decide
    | 3, hi =>
      obtain rfl : (a3, ⟨0, -1, 0⟩) = q := by simpa using hi
      by_cases c1 : a3.a = 0 <;> by_cases c2 : a3.b = -1 <;> simp [Hf.par, c1, c2, I, binD, D.idx, partD, D.cells, Hf.d, outOf, denL, E.den, denVK, T.denV, D.den1, k0, k1, k2, k3] <;> decide
    | n + 4, hi => simp at hi
  · simp [binD, outOf, denL]
end Go.Q.G
