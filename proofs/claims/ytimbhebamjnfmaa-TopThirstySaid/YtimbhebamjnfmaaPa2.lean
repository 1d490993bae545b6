/- Ported: camel (Ra4 to Ra6) -/
import Derived.Test.YtimbhebamjnfmaaPa0
set_option linter.unusedVariables false
set_option linter.unusedSimpArgs false
set_option maxRecDepth 100000
namespace Go.Q
open Go.V
structure Br where
  c0 : Int
  c1 : Int
  c2 : Int
  c3 : Int
  c4 : Int
  c5 : Int
  c6 : Int
  c7 : Int
  c8 : Int
  c9 : Int
  c10 : Int
  c11 : Int
  c12 : Int
  c13 : Int
  c14 : Int
  c15 : Int
  c16 : Int
def Br.d (b : Br) : List D := [I b.c0, I b.c1, I b.c2, I b.c3, I b.c4, I b.c5, I b.c6, I b.c7, I b.c8, I b.c9, I b.c10, I b.c11, I b.c12, I b.c13, I b.c14, I b.c15, I b.c16]
structure Cm where
  x0 : Int
  x1 : Int
  x2 : Int
  x3 : Int
  x4 : Int
  x5 : Int
  x6 : Bool
def Cm.d (c : Cm) : List D := [I c.x0, I c.x1, I c.x2, I c.x3, I c.x4, I c.x5, .bool c.x6]
theorem e191 (mx : Int) (ps : List (Int × Int)) (hl : ps.length ≤ 100) : evL FN 191 [I mx, .list (ps.map fun p => [I p.1, I p.2])] = some (.bool (ps.all fun p => inS p.1 p.2 0 mx)) := by
  refine evL_of (F := F191) rfl ?_
  simp [F191, Fn.denV, fits, T.denV, denL, E.den, D.den1, binD]
  rw [iter_all (p := fun p : Int × Int => inS p.1 p.2 0 mx) (t := 0) (u := 1) (xs := ps)]
  · cases ps.all (fun p => inS p.1 p.2 0 mx) <;> simp [denVK, T.denV, E.den]
  · intro i p hi
    obtain ⟨hlt, rfl⟩ := List.getElem?_eq_some_iff.1 hi
    generalize hp : ps[i] = p at *
    simp [hlt, idx_nat hlt, hi, hp, partD, D.cells, binD, D.den1, wrapN (show i < 9223372036854775807 by omega), inS]
    by_cases g1 : p.1 < 0
    · have g1' : ¬ 0 ≤ p.1 := by omega
      simp [g1, g1', outOf, denL, E.den, denVK, T.denV]
    have g1' : 0 ≤ p.1 := by omega
    by_cases g2 : p.2 < p.1
    · have g2' : ¬ p.1 ≤ p.2 := by omega
      simp [g1, g1', g2, g2', outOf, denL, E.den, denVK, T.denV, D.den1, binD, D.cells]
    have g2' : p.1 ≤ p.2 := by omega
    by_cases g3 : mx < p.2
    · have g3' : ¬ p.2 ≤ mx := by omega
      simp [g1, g1', g2, g2', g3, g3', outOf, denL, E.den, denVK, T.denV, D.den1, binD, D.cells]
    have g3' : p.2 ≤ mx := by omega
    simp [g1, g1', g2, g2', g3, g3', outOf, denL, E.den, denVK, T.denV, D.den1, binD, D.cells, wrapN (show i < 9223372036854775807 by omega)]
  · simp [outOf, denL]
def sixOK (b : Br) : Bool := inS b.c2 b.c3 0 100000 && (inS b.c4 b.c5 0 100000 && (inS b.c6 b.c7 0 100000 && (inS b.c8 b.c9 0 100000 && (inS b.c10 b.c11 0 100000 && inS b.c12 b.c13 0 100000))))
def brOK (b : Br) : Bool := decide (1 ≤ b.c0) && (decide (b.c0 ≤ 1000000) && (decide (1 ≤ b.c1) && (decide (b.c1 ≤ 1000000) && (sixOK b && (decide (0 ≤ b.c14) && (decide (b.c14 ≤ 1000) && inS b.c15 b.c16 0 1000000))))))
theorem e190 (b : Br) : evL FN 190 [.node b.d] = some (I (if brOK b then 0 else 10)) := by
  refine evL_of (F := F190) rfl ?_
  have h6 := e191 100000 [(b.c2, b.c3), (b.c4, b.c5), (b.c6, b.c7), (b.c8, b.c9), (b.c10, b.c11), (b.c12, b.c13)] (by simp)
  have h1 := e191 1000000 [(b.c15, b.c16)] (by simp)
  have h6' : ([(b.c2, b.c3), (b.c4, b.c5), (b.c6, b.c7), (b.c8, b.c9), (b.c10, b.c11), (b.c12, b.c13)].all fun p => inS p.1 p.2 0 100000) = sixOK b := by simp [sixOK]
  have h1' : ([(b.c15, b.c16)].all fun p => inS p.1 p.2 0 1000000) = inS b.c15 b.c16 0 1000000 := by simp
  rw [h6'] at h6
  rw [h1'] at h1
  unfold brOK
  simp only [List.map_cons, List.map_nil, I] at h6 h1
  generalize sixOK b = s6 at *
  generalize inS b.c15 b.c16 0 1000000 = s1 at *
  simp [F190, Fn.denV, fits, T.denV, denL, E.den, D.cells, Br.d, D.den1, binD]
  by_cases g1 : b.c0 < 1
  · have g1' : ¬ 1 ≤ b.c0 := by omega
    simp [g1, g1', outOf, denL, E.den, denVK, T.denV]
  have g1' : 1 ≤ b.c0 := by omega
  by_cases g2 : 1000000 < b.c0
  · have g2' : ¬ b.c0 ≤ 1000000 := by omega
    simp [g1, g1', g2, g2', outOf, denL, E.den, denVK, T.denV, D.den1, binD, D.cells]
  have g2' : b.c0 ≤ 1000000 := by omega
  by_cases g3 : b.c1 < 1
  · have g3' : ¬ 1 ≤ b.c1 := by omega
    simp [g1, g1', g2, g2', g3, g3', outOf, denL, E.den, denVK, T.denV, D.den1, binD, D.cells]
  have g3' : 1 ≤ b.c1 := by omega
  by_cases g4 : 1000000 < b.c1
  · have g4' : ¬ b.c1 ≤ 1000000 := by omega
    simp [g1, g1', g2, g2', g3, g3', g4, g4', outOf, denL, E.den, denVK, T.denV, D.den1, binD, D.cells]
  have g4' : b.c1 ≤ 1000000 := by omega
  simp [g1, g1', g2, g2', g3, g3', g4, g4', outOf, denL, E.den, denVK, T.denV, D.den1, binD, unD, D.cells, fillD, h6, D.flat, D.flat0]
  cases s6
  · simp [outOf, denL, E.den, denVK, T.denV]
  by_cases g5 : b.c14 < 0
  · have g5' : ¬ 0 ≤ b.c14 := by omega
    simp [g5, g5', outOf, denL, E.den, denVK, T.denV, D.den1, binD, D.cells]
  have g5' : 0 ≤ b.c14 := by omega
  by_cases g6 : 1000 < b.c14
  · have g6' : ¬ b.c14 ≤ 1000 := by omega
    simp [g5, g5', g6, g6', outOf, denL, E.den, denVK, T.denV, D.den1, binD, D.cells]
  have g6' : b.c14 ≤ 1000 := by omega
  simp [g5, g5', g6, g6', outOf, denL, E.den, denVK, T.denV, D.den1, binD, unD, D.cells, fillD, h1, D.flat, D.flat0]
  cases s1 <;> simp [outOf, denL, E.den, denVK, T.denV]
def cmOK (b : Br) (c : Cm) : Bool := inS c.x0 c.x1 0 b.c0 && (inS c.x2 c.x3 0 b.c1 && inS c.x4 c.x5 0 1000)
def cmE (b : Br) (c : Cm) : Int := if brOK b then (if cmOK b c then 0 else 11) else 10
theorem e173 (b : Br) (c : Cm) : evL FN 173 [.node b.d, .node c.d] = some (I (cmE b c)) := by
  refine evL_of (F := F173) rfl ?_
  have h111 := e190 b
  have h1 := e191 b.c0 [(c.x0, c.x1)] (by simp)
  have h2 := e191 b.c1 [(c.x2, c.x3)] (by simp)
  have h3 := e191 1000 [(c.x4, c.x5)] (by simp)
  simp only [List.map_cons, List.map_nil, List.all_cons, List.all_nil, Bool.and_true, I] at h1 h2 h3
  unfold cmE cmOK
  simp only [Br.d, I] at h111 ⊢
  generalize inS c.x0 c.x1 0 b.c0 = s1 at *
  generalize inS c.x2 c.x3 0 b.c1 = s2 at *
  generalize inS c.x4 c.x5 0 1000 = s3 at *
  generalize brOK b = s0 at *
  cases s0
  · simp at h111
    simp [F173, Fn.denV, fits, T.denV, denL, E.den, D.cells, Cm.d, D.den1, binD, h111]
  simp at h111
  simp [F173, Fn.denV, fits, T.denV, denL, E.den, D.cells, Cm.d, D.den1, binD, unD, fillD, h111, h1, D.flat, D.flat0]
  cases s1
  · simp [outOf, denL, E.den, denVK, T.denV]
  simp [outOf, denL, E.den, denVK, T.denV, D.den1, binD, unD, fillD, D.cells, h2, D.flat, D.flat0]
  cases s2
  · simp [outOf, denL, E.den, denVK, T.denV]
  simp [outOf, denL, E.den, denVK, T.denV, D.den1, binD, unD, fillD, D.cells, h3, D.flat, D.flat0]
  cases s3 <;> simp [outOf, denL, E.den, denVK, T.denV]
theorem e117 (n lo hi : Int) : evL FN 117 [I n, I lo, I hi] = some (.bool (inR n lo hi)) := by
  refine evL_of (F := F117) rfl ?_
  by_cases h1 : lo ≤ n <;> by_cases h2 : n ≤ hi <;> simp [F117, Fn.denV, fits, T.denV, denVK, denL, E.den, D.den1, binD, outOf, inR, h1, h2]
theorem e118 (lo hi a b : Int) : evL FN 118 [.node [I lo, I hi], I a, I b] = some (.bool (inS lo hi a b)) := by
  refine evL_of (F := F118) rfl ?_
  have h := e117 lo a hi
  simp only [I] at h
  by_cases h1 : a ≤ lo <;> by_cases h2 : lo ≤ hi <;> by_cases h3 : hi ≤ b <;> simp [F118, Fn.denV, fits, T.denV, denVK, denL, E.den, D.cells, D.den1, binD, outOf, inR, inS, h, h1, h2, h3]
theorem brOK_alt (b : Br) : brOK b = (inR b.c0 1 1000000 && inR b.c1 1 1000000 && inR b.c14 0 1000 && inS b.c15 b.c16 0 1000000 && sixOK b) := by
  rw [Bool.eq_iff_iff]
  simp only [brOK, inR, Bool.and_eq_true, decide_eq_true_eq]
  constructor
  · rintro ⟨a, b, c, d, e, f, g, h⟩; exact ⟨⟨⟨⟨⟨a, b⟩, c, d⟩, f, g⟩, h⟩, e⟩
  · rintro ⟨⟨⟨⟨⟨a, b⟩, c, d⟩, f, g⟩, h⟩, e⟩; exact ⟨a, b, c, d, e, f, g, h⟩
theorem e115 (b : Br) : evL FN 115 [.node b.d] = some (.bool (brOK b)) := by
  refine evL_of (F := F115) rfl ?_
  rw [brOK_alt]
  have a0 := e117 b.c0 1 1000000
  have a1 := e117 b.c1 1 1000000
  have a2 := e117 b.c14 0 1000
  have a3 := e118 b.c15 b.c16 0 1000000
  have b1 := e118 b.c2 b.c3 0 100000
  have b2 := e118 b.c4 b.c5 0 100000
  have b3 := e118 b.c6 b.c7 0 100000
  have b4 := e118 b.c8 b.c9 0 100000
  have b5 := e118 b.c10 b.c11 0 100000
  have b6 := e118 b.c12 b.c13 0 100000
  unfold sixOK
  simp only [Br.d, I] at *
  generalize inR b.c0 1 1000000 = r0 at *
  generalize inR b.c1 1 1000000 = r1 at *
  generalize inR b.c14 0 1000 = r2 at *
  generalize inS b.c15 b.c16 0 1000000 = r3 at *
  generalize inS b.c2 b.c3 0 100000 = s1 at *
  generalize inS b.c4 b.c5 0 100000 = s2 at *
  generalize inS b.c6 b.c7 0 100000 = s3 at *
  generalize inS b.c8 b.c9 0 100000 = s4 at *
  generalize inS b.c10 b.c11 0 100000 = s5 at *
  generalize inS b.c12 b.c13 0 100000 = s6 at *
  simp [F115, Fn.denV, fits, T.denV, denL, E.den, D.cells, D.den1, unD, a0]
  cases r0
  · simp [outOf, denL, E.den, denVK, T.denV]
  simp [outOf, denL, E.den, denVK, T.denV, D.den1, unD, D.cells, a1]
  cases r1
  · simp [outOf, denL, E.den, denVK, T.denV]
  simp [outOf, denL, E.den, denVK, T.denV, D.den1, unD, D.cells, a2]
  cases r2
  · simp [outOf, denL, E.den, denVK, T.denV]
  simp [outOf, denL, E.den, denVK, T.denV, D.den1, unD, D.cells, a3]
  cases r3
  · simp [outOf, denL, E.den, denVK, T.denV]
  simp [outOf, denL, E.den, denVK, T.denV, D.den1, unD, D.cells, b1]
  cases s1
  · simp [outOf, denL, E.den, denVK, T.denV]
  simp [outOf, denL, E.den, denVK, T.denV, D.den1, unD, D.cells, b2]
  cases s2
  · simp [outOf, denL, E.den, denVK, T.denV]
  simp [outOf, denL, E.den, denVK, T.denV, D.den1, unD, D.cells, b3]
  cases s3
  · simp [outOf, denL, E.den, denVK, T.denV]
  simp [outOf, denL, E.den, denVK, T.denV, D.den1, unD, D.cells, b4]
  cases s4
  · simp [outOf, denL, E.den, denVK, T.denV]
  simp [outOf, denL, E.den, denVK, T.denV, D.den1, unD, D.cells, b5]
  cases s5
  · simp [outOf, denL, E.den, denVK, T.denV]
  simp [outOf, denL, E.den, denVK, T.denV, D.den1, unD, D.cells, b6]
theorem e116 (b : Br) (c : Cm) : evL FN 116 [.node b.d, .node c.d] = some (.bool (cmOK b c)) := by
  refine evL_of (F := F116) rfl ?_
  have a0 := e118 c.x0 c.x1 0 b.c0
  have a1 := e118 c.x2 c.x3 0 b.c1
  have a2 := e118 c.x4 c.x5 0 1000
  unfold cmOK
  simp only [Br.d, Cm.d, I] at *
  generalize inS c.x0 c.x1 0 b.c0 = s1 at *
  generalize inS c.x2 c.x3 0 b.c1 = s2 at *
  generalize inS c.x4 c.x5 0 1000 = s3 at *
  simp [F116, Fn.denV, fits, T.denV, denL, E.den, D.cells, a0]
  cases s1
  · simp [outOf, denL, E.den, denVK, T.denV]
  simp [outOf, denL, E.den, denVK, T.denV, D.cells, a1]
  cases s2
  · simp [outOf, denL, E.den, denVK, T.denV]
  simp [outOf, denL, E.den, denVK, T.denV, D.cells, a2]
theorem e196_2 (a b c d : Int) (h : 0 ≤ a ∧ a ≤ 1000000000000 ∧ 0 ≤ b ∧ b ≤ 1000000000000 ∧ 0 ≤ c ∧ c ≤ 1000000000000 ∧ 0 ≤ d ∧ d ≤ 1000000000000) :
    evL FN 196 [.list [[I a, I b], [I c, I d]]] = some (.node [I (a + c), I (b + d)]) := by
  refine evL_of (F := F196) rfl ?_
  have w1 : IntKind.i64.wrap 1 = 1 := by decide
  have w2 : IntKind.i64.wrap 2 = 2 := by decide
  have k1 : IntKind.i64.wrap a = a := wI (by omega)
  have k2 : IntKind.i64.wrap b = b := wI (by omega)
  have k3 : IntKind.i64.wrap (a + c) = a + c := wI (by omega)
  have k4 : IntKind.i64.wrap (b + d) = b + d := wI (by omega)
  simp [F196, Fn.denV, fits, T.denV, denL, E.den, D.den1]
  rw [iterL_eq]
  simp [D.den1, binD, D.idx, partD, D.cells, outOf, denL, E.den, denVK, T.denV, w1, k1, k2]
  rw [iterL_eq]
  simp [D.den1, binD, D.idx, partD, D.cells, outOf, denL, E.den, denVK, T.denV, w1, w2, k1, k2, k3, k4]
  rw [iterL_eq]
  simp [D.den1, binD, D.idx, partD, D.cells, outOf, denL, E.den, denVK, T.denV, w1, w2, k1, k2, k3, k4]
theorem e196_3 (a b c d e f : Int) (h : 0 ≤ a ∧ a ≤ 1000000000000 ∧ 0 ≤ b ∧ b ≤ 1000000000000 ∧ 0 ≤ c ∧ c ≤ 1000000000000 ∧ 0 ≤ d ∧ d ≤ 1000000000000 ∧ 0 ≤ e ∧ e ≤ 1000000000000 ∧ 0 ≤ f ∧ f ≤ 1000000000000) :
    evL FN 196 [.list [[I a, I b], [I c, I d], [I e, I f]]] = some (.node [I (a + c + e), I (b + d + f)]) := by
  refine evL_of (F := F196) rfl ?_
  have w1 : IntKind.i64.wrap 1 = 1 := by decide
  have w2 : IntKind.i64.wrap 2 = 2 := by decide
  have w3 : IntKind.i64.wrap 3 = 3 := by decide
  have k1 : IntKind.i64.wrap a = a := wI (by omega)
  have k2 : IntKind.i64.wrap b = b := wI (by omega)
  have k3 : IntKind.i64.wrap (a + c) = a + c := wI (by omega)
  have k4 : IntKind.i64.wrap (b + d) = b + d := wI (by omega)
  have k5 : IntKind.i64.wrap (a + c + e) = a + c + e := wI (by omega)
  have k6 : IntKind.i64.wrap (b + d + f) = b + d + f := wI (by omega)
  simp [F196, Fn.denV, fits, T.denV, denL, E.den, D.den1]
  rw [iterL_eq]
  simp [D.den1, binD, D.idx, partD, D.cells, outOf, denL, E.den, denVK, T.denV, w1, k1, k2]
  rw [iterL_eq]
  simp [D.den1, binD, D.idx, partD, D.cells, outOf, denL, E.den, denVK, T.denV, w1, w2, k1, k2, k3, k4]
  rw [iterL_eq]
  simp [D.den1, binD, D.idx, partD, D.cells, outOf, denL, E.den, denVK, T.denV, w1, w2, w3, k1, k2, k3, k4, k5, k6]
  rw [iterL_eq]
  simp [D.den1, binD, D.idx, partD, D.cells, outOf, denL, E.den, denVK, T.denV, w1, w2, w3, k1, k2, k3, k4, k5, k6]
/-- Water that a day of rest costs, at least and at most. -/
def hot (h : Int) : Int := max 0 (h - 20)
structure BrOK (r : Br) : Prop where
  f0 : 1 ≤ r.c0
  f1 : r.c0 ≤ 1000000
  g0 : 1 ≤ r.c1
  g1 : r.c1 ≤ 1000000
  a : 0 ≤ r.c2 ∧ r.c2 ≤ r.c3 ∧ r.c3 ≤ 100000
  b : 0 ≤ r.c4 ∧ r.c4 ≤ r.c5 ∧ r.c5 ≤ 100000
  c : 0 ≤ r.c6 ∧ r.c6 ≤ r.c7 ∧ r.c7 ≤ 100000
  d : 0 ≤ r.c8 ∧ r.c8 ≤ r.c9 ∧ r.c9 ≤ 100000
  e : 0 ≤ r.c10 ∧ r.c10 ≤ r.c11 ∧ r.c11 ≤ 100000
  f : 0 ≤ r.c12 ∧ r.c12 ≤ r.c13 ∧ r.c13 ≤ 100000
  g : 0 ≤ r.c14 ∧ r.c14 ≤ 1000
theorem br_ok {b : Br} (h : brOK b = true) : BrOK b := by
  simp only [brOK, sixOK, inS, Bool.and_eq_true, decide_eq_true_eq] at h
  obtain ⟨a, b, c, d, ⟨⟨⟨e1, e2⟩, e3⟩, ⟨⟨f1, f2⟩, f3⟩, ⟨⟨g1, g2⟩, g3⟩, ⟨⟨h1, h2⟩, h3⟩, ⟨⟨i1, i2⟩, i3⟩, ⟨j1, j2⟩, j3⟩, k, l, m⟩ := h
  exact ⟨a, b, c, d, ⟨e1, e2, e3⟩, ⟨f1, f2, f3⟩, ⟨g1, g2, g3⟩, ⟨h1, h2, h3⟩, ⟨i1, i2, i3⟩, ⟨j1, j2, j3⟩, k, l⟩
theorem e194 (a b m : Int) : evL FN 194 [.node [I a, I b], I m] = some (.node [I (min (max a 0) m), I (min (max b 0) m)]) := by
  refine evL_of (F := F194) rfl ?_
  have m1 : ∀ x : Int, (if x < 0 then 0 else x) = max x 0 := fun x => by split <;> omega
  have m2 : ∀ x y : Int, (if y < x then y else x) = min x y := fun x y => by split <;> omega
  simp [F194, Fn.denV, fits, T.denV, denL, E.den, D.cells, D.den1, mxLD, mxD, m1, m2]
theorem e195 (a b c d : Int) (h1 : -9000000000000000000 ≤ a - d ∧ a - d ≤ 9000000000000000000) (h2 : -9000000000000000000 ≤ b - c ∧ b - c ≤ 9000000000000000000) : evL FN 195 [.node [I a, I b], .node [I c, I d]] = some (.node [I (a - d), I (b - c)]) := by
  refine evL_of (F := F195) rfl ?_
  have k1 : IntKind.i64.wrap (a - d) = a - d := wI (by omega)
  have k2 : IntKind.i64.wrap (b - c) = b - c := wI (by omega)
  simp [F195, Fn.denV, fits, T.denV, denL, E.den, D.cells, D.den1, binD, k1, k2]
theorem e193 (a b c d e f m : Int) (h : 0 ≤ a ∧ a ≤ 100000000 ∧ 0 ≤ b ∧ b ≤ 100000000 ∧ 0 ≤ c ∧ c ≤ 100000000 ∧ 0 ≤ d ∧ d ≤ 100000000 ∧ 0 ≤ e ∧ e ≤ 100000000 ∧ 0 ≤ f ∧ f ≤ 100000000 ∧ 0 ≤ m ∧ m ≤ 100000000) :
    evL FN 193 [.node [I a, I b], .node [I c, I d], .node [I e, I f], I m] = some (.node [I (min (max (min (max (a - d) 0) m + e) 0) m), I (min (max (min (max (b - c) 0) m + f) 0) m)]) := by
  refine evL_of (F := F193) rfl ?_
  have h1 := e195 a b c d (by omega) (by omega)
  have h2 := e194 (a - d) (b - c) m
  have h3 := e196_2 (min (max (a - d) 0) m) (min (max (b - c) 0) m) e f (by omega)
  have h4 := e194 (min (max (a - d) 0) m + e) (min (max (b - c) 0) m + f) m
  generalize min (max (a - d) 0) m = x at *
  generalize min (max (b - c) 0) m = y at *
  simp only [I] at *
  simp [F193, Fn.denV, fits, T.denV, denL, E.den, D.cells, D.den1, h1, h2, h3, h4, fillD, D.flat, D.flat0]
structure CmOK (b : Br) (c : Cm) : Prop where
  a : 0 ≤ c.x0 ∧ c.x0 ≤ c.x1 ∧ c.x1 ≤ b.c0
  b : 0 ≤ c.x2 ∧ c.x2 ≤ c.x3 ∧ c.x3 ≤ b.c1
  c : 0 ≤ c.x4 ∧ c.x4 ≤ c.x5 ∧ c.x5 ≤ 1000
theorem cm_ok {b : Br} {c : Cm} (h : cmOK b c = true) : CmOK b c := by
  simp only [cmOK, inS, Bool.and_eq_true, decide_eq_true_eq] at h
  obtain ⟨⟨⟨e1, e2⟩, e3⟩, ⟨⟨f1, f2⟩, f3⟩, ⟨g1, g2⟩, g3⟩ := h
  exact ⟨⟨e1, e2, e3⟩, ⟨f1, f2, f3⟩, ⟨g1, g2, g3⟩⟩
theorem e125 (b : Br) (c : Cm) : evL FN 125 [.node b.d, .node c.d] = some (.node (b.d ++ c.d)) := by
  refine evL_of (F := F125) rfl ?_
  simp [F125, Fn.denV, fits, T.denV, denL, E.den, D.cells, Br.d, Cm.d]
structure Mr where
  h : Int
  l : Int
  t0 : Int
  t1 : Int
  e0 : Int
  e1 : Int
  q0 : Int
  q1 : Int
def Mr.d (m : Mr) : List D := [I m.h, I m.l, I m.t0, I m.t1, I m.e0, I m.e1, I m.q0, I m.q1]
def mrOK (m : Mr) : Bool := inR m.h 0 24 && (inR m.l 0 1000000 && (inS m.t0 m.t1 0 60 && (inS m.e0 m.e1 0 1000000 && inS m.q0 m.q1 0 1000000)))
structure MrOK (m : Mr) : Prop where
  h : 0 ≤ m.h ∧ m.h ≤ 24
  l : 0 ≤ m.l ∧ m.l ≤ 1000000
  t : 0 ≤ m.t0 ∧ m.t0 ≤ m.t1 ∧ m.t1 ≤ 60
  e : 0 ≤ m.e0 ∧ m.e0 ≤ m.e1 ∧ m.e1 ≤ 1000000
  q : 0 ≤ m.q0 ∧ m.q0 ≤ m.q1 ∧ m.q1 ≤ 1000000
theorem mr_ok {m : Mr} (h : mrOK m = true) : MrOK m := by
  simp only [mrOK, inR, inS, Bool.and_eq_true, decide_eq_true_eq] at h
  obtain ⟨a, b, ⟨⟨c1, c2⟩, c3⟩, ⟨⟨d1, d2⟩, d3⟩, ⟨e1, e2⟩, e3⟩ := h
  exact ⟨a, b, ⟨c1, c2, c3⟩, ⟨d1, d2, d3⟩, ⟨e1, e2, e3⟩⟩
theorem e35 (m : Mr) : evL FN 35 [.node m.d] = some (.bool (mrOK m)) := by
  refine evL_of (F := F35) rfl ?_
  have a0 := e117 m.h 0 24
  have a1 := e117 m.l 0 1000000
  have a2 := e118 m.t0 m.t1 0 60
  have a3 := e118 m.e0 m.e1 0 1000000
  have a4 := e118 m.q0 m.q1 0 1000000
  unfold mrOK
  simp only [Mr.d, I] at *
  generalize inR m.h 0 24 = r0 at *
  generalize inR m.l 0 1000000 = r1 at *
  generalize inS m.t0 m.t1 0 60 = r2 at *
  generalize inS m.e0 m.e1 0 1000000 = r3 at *
  generalize inS m.q0 m.q1 0 1000000 = r4 at *
  simp [F35, Fn.denV, fits, T.denV, denL, E.den, D.cells, a0]
  cases r0
  · simp [outOf, denL, E.den, denVK, T.denV]
  simp [outOf, denL, E.den, denVK, T.denV, D.cells, a1]
  cases r1
  · simp [outOf, denL, E.den, denVK, T.denV]
  simp [outOf, denL, E.den, denVK, T.denV, D.cells, a2]
  cases r2
  · simp [outOf, denL, E.den, denVK, T.denV]
  simp [outOf, denL, E.den, denVK, T.denV, D.cells, a3]
  cases r3
  · simp [outOf, denL, E.den, denVK, T.denV]
  simp [outOf, denL, E.den, denVK, T.denV, D.cells, a4]
theorem e34 (b : Br) (c : Cm) : evL FN 34 [.node b.d, .node c.d] = some (I (cmE b c)) := by
  refine evL_of (F := F34) rfl ?_
  have h1 := e115 b
  have h2 := e116 b c
  unfold cmE
  simp only [Br.d, Cm.d, I] at h1 h2 ⊢
  cases hb : brOK b <;> cases hc : cmOK b c <;> rw [hb] at h1 <;> rw [hc] at h2 <;> simp [F34, Fn.denV, fits, T.denV, denL, E.den, D.cells, D.den1, unD, h1, h2]
theorem e203_2 (k a b c d : Int) (hk : 1 ≤ k ∧ k ≤ 1000000) (h : 0 ≤ a ∧ a ≤ 1000000 ∧ 0 ≤ b ∧ b ≤ 1000000 ∧ 0 ≤ c ∧ c ≤ 1000000000 ∧ 0 ≤ d ∧ d ≤ 1000000000) :
    evL FN 203 [I k, .list [[I a, I b], [I c, I d]]] = some (.node [I ((a * c).tdiv k), I ((b * d + k - 1).tdiv k)]) := by
  refine evL_of (F := F203) rfl ?_
  have h106 := e124 1
  have w1 : IntKind.i64.wrap 1 = 1 := by decide
  have w2 : IntKind.i64.wrap 2 = 2 := by decide
  have m1 : 0 ≤ a * c ∧ a * c ≤ 1000000000000000 := by
    refine ⟨Int.mul_nonneg (by omega) (by omega), ?_⟩
    have := Int.mul_le_mul (a := a) (b := c) (c := 1000000) (d := 1000000000) (by omega) (by omega) (by omega) (by omega)
    simpa using this
  have m2 : 0 ≤ b * d ∧ b * d ≤ 1000000000000000 := by
    refine ⟨Int.mul_nonneg (by omega) (by omega), ?_⟩
    have := Int.mul_le_mul (a := b) (b := d) (c := 1000000) (d := 1000000000) (by omega) (by omega) (by omega) (by omega)
    simpa using this
  have k1 : IntKind.i64.wrap a = a := wI (by omega)
  have k2 : IntKind.i64.wrap b = b := wI (by omega)
  have k3 : IntKind.i64.wrap (a * c) = a * c := wI (by omega)
  have k4 : IntKind.i64.wrap (b * d) = b * d := wI (by omega)
  have k5 : IntKind.i64.wrap (b * d + k) = b * d + k := wI (by omega)
  have k6 : IntKind.i64.wrap (b * d + k - 1) = b * d + k - 1 := wI (by omega)
  have q1 : 0 ≤ (a * c).tdiv k ∧ (a * c).tdiv k ≤ a * c := by
    rw [Int.tdiv_eq_ediv_of_nonneg m1.1]
    exact ⟨Int.ediv_nonneg m1.1 (by omega), Int.ediv_le_self _ m1.1⟩
  have q2 : 0 ≤ (b * d + k - 1).tdiv k ∧ (b * d + k - 1).tdiv k ≤ b * d + k - 1 := by
    rw [Int.tdiv_eq_ediv_of_nonneg (by omega)]
    exact ⟨Int.ediv_nonneg (by omega) (by omega), Int.ediv_le_self _ (by omega)⟩
  have k7 : IntKind.i64.wrap ((a * c).tdiv k) = (a * c).tdiv k := wI (by omega)
  have k8 : IntKind.i64.wrap ((b * d + k - 1).tdiv k) = (b * d + k - 1).tdiv k := wI (by omega)
  have hk0 : k ≠ 0 := by omega
  simp only [I] at h106 ⊢
  simp [F203, Fn.denV, fits, T.denV, denL, E.den, D.den1, D.cells, h106]
  rw [iterL_eq]
  simp [D.den1, binD, D.idx, partD, D.cells, outOf, denL, E.den, denVK, T.denV, w1, k1, k2]
  rw [iterL_eq]
  simp [D.den1, binD, D.idx, partD, D.cells, outOf, denL, E.den, denVK, T.denV, w1, w2, k1, k2, k3, k4]
  rw [iterL_eq]
  simp [D.den1, binD, D.idx, partD, D.cells, outOf, denL, E.den, denVK, T.denV, w1, w2, k1, k2, k3, k4, k5, k6, k7, k8, hk0]
def wrk (m : Mr) : Int := m.h * (100000 + m.l)
def A0 (b : Br) (m : Mr) (mk : Bool) : Int := b.c2 + b.c4 * hot m.t0 + (b.c6 * wrk m).tdiv 100000 + (if mk then b.c12 else 0)
def A1 (b : Br) (m : Mr) (mk : Bool) : Int := b.c3 + b.c5 * hot m.t1 + (b.c7 * wrk m + 100000 - 1).tdiv 100000 + (if mk then b.c13 else 0)
def A2 (b : Br) (m : Mr) : Int := (b.c8 * wrk m).tdiv 100000
def A3 (b : Br) (m : Mr) : Int := (b.c9 * wrk m + 100000 - 1).tdiv 100000
def A4 (b : Br) (m : Mr) : Int := (b.c10 * (m.h * m.l)).tdiv 1000000
def A5 (b : Br) (m : Mr) : Int := (b.c11 * (m.h * m.l) + 1000000 - 1).tdiv 1000000
theorem sc_bd {k a b x N : Int} (hk : 1 ≤ k) (ha : 0 ≤ a) (hab : a ≤ b) (hx : 0 ≤ x) (hN : b * x ≤ N * k) : 0 ≤ (a * x).tdiv k ∧ (a * x).tdiv k ≤ (b * x + k - 1).tdiv k ∧ (b * x + k - 1).tdiv k ≤ N := by
  have h1 : 0 ≤ a * x := Int.mul_nonneg ha hx
  have h2 : a * x ≤ b * x := Int.mul_le_mul_of_nonneg_right hab hx
  rw [Int.tdiv_eq_ediv_of_nonneg h1, Int.tdiv_eq_ediv_of_nonneg (by omega)]
  refine ⟨Int.ediv_nonneg h1 (by omega), Int.ediv_le_ediv (by omega) (by omega), ?_⟩
  have : (b * x + k - 1) / k < N + 1 := by
    refine Int.ediv_lt_of_lt_mul (by omega) ?_
    rw [Int.add_mul]; omega
  omega
theorem wrk_bd {m : Mr} (h : MrOK m) : 0 ≤ wrk m ∧ wrk m ≤ 26400000 ∧ 0 ≤ m.h * m.l ∧ m.h * m.l ≤ 24000000 := by
  have h1 := h.h; have h2 := h.l
  unfold wrk
  refine ⟨Int.mul_nonneg (by omega) (by omega), ?_, Int.mul_nonneg (by omega) (by omega), ?_⟩
  · have := Int.mul_le_mul (a := m.h) (b := 100000 + m.l) (c := 24) (d := 1100000) (by omega) (by omega) (by omega) (by omega)
    omega
  · have := Int.mul_le_mul (a := m.h) (b := m.l) (c := 24) (d := 1000000) (by omega) (by omega) (by omega) (by omega)
    omega
theorem mul_1e5 {a x : Int} (ha : 0 ≤ a ∧ a ≤ 100000) (hx : 0 ≤ x) : a * x ≤ 100000 * x := Int.mul_le_mul_of_nonneg_right ha.2 hx
/-- What a day costs lies between. -/
theorem A_bd {b : Br} (hb : BrOK b) {m : Mr} (hm : MrOK m) (mk : Bool) : (0 ≤ A0 b m mk ∧ A0 b m mk ≤ A1 b m mk ∧ A1 b m mk ≤ 31000000) ∧ (0 ≤ A2 b m ∧ A2 b m ≤ A3 b m ∧ A3 b m ≤ 26400000) ∧ (0 ≤ A4 b m ∧ A4 b m ≤ A5 b m ∧ A5 b m ≤ 2400000) := by
  obtain ⟨w1, w2, w3, w4⟩ := wrk_bd hm
  have ht := hm.t
  have u0 : 0 ≤ hot m.t0 ∧ hot m.t0 ≤ hot m.t1 ∧ hot m.t1 ≤ 40 := by unfold hot; omega
  have hba := hb.a; have hbb := hb.b; have hbc := hb.c; have hbd := hb.d; have hbe := hb.e; have hbf := hb.f
  have p1 : 0 ≤ b.c4 * hot m.t0 := Int.mul_nonneg (by omega) (by omega)
  have p2 : b.c4 * hot m.t0 ≤ b.c5 * hot m.t1 := Int.mul_le_mul (by omega) (by omega) (by omega) (by omega)
  have p3 : b.c5 * hot m.t1 ≤ 100000 * 40 := Int.mul_le_mul (by omega) (by omega) (by omega) (by omega)
  have s1 := sc_bd (k := 100000) (a := b.c6) (b := b.c7) (x := wrk m) (N := 26400000) (by omega) (by omega) (by omega) w1 (by have := mul_1e5 (a := b.c7) (by omega) w1; omega)
  have s2 := sc_bd (k := 100000) (a := b.c8) (b := b.c9) (x := wrk m) (N := 26400000) (by omega) (by omega) (by omega) w1 (by have := mul_1e5 (a := b.c9) (by omega) w1; omega)
  have s3 := sc_bd (k := 1000000) (a := b.c10) (b := b.c11) (x := m.h * m.l) (N := 2400000) (by omega) (by omega) (by omega) w3 (by have := mul_1e5 (a := b.c11) (by omega) w3; omega)
  unfold A0 A1 A2 A3 A4 A5
  refine ⟨?_, s2, s3⟩
  cases mk <;> simp <;> omega
end Go.Q
