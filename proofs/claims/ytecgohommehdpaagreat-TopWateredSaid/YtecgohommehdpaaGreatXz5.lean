/- Camel: Cost and After of a day of rest. -/
import Derived.Test.YtecgohommehdpaaGreatXz4
set_option linter.unusedVariables false
set_option linter.unusedSimpArgs false
set_option maxRecDepth 100000
namespace Go.Q
open Go.V
theorem e60 (h0 h1 d : Int) (hh : inS h0 h1 0 60 = true) (hd : 0 ≤ d ∧ d ≤ 1000000) : evL FN 60 [.list [[I 0, I 0, I h0, I h1, I 0, I 0, I d, I d]]] = some (I 0) := by
  refine evL_of (F := F60) rfl ?_
  have a1 := e88 60 [(h0, h1)] (by simp)
  have a2 := e88 1000000 [(0, 0), (d, d)] (by simp)
  have q1 : inS d d 0 1000000 = true := by simp [inS]; omega
  have q2 : inS 0 0 0 1000000 = true := by decide
  have w1 : IntKind.i64.wrap 1 = 1 := by decide
  simp only [List.map_cons, List.map_nil, List.all_cons, List.all_nil, Bool.and_true, I, hh, q1, q2] at a1 a2
  simp [F60, Fn.denV, fits, T.denV, denL, E.den, D.den1]
  rw [iterL_eq]
  simp [D.den1, binD, unD, D.idx, partD, D.cells, outOf, denL, E.den, denVK, T.denV, fillD, D.flat, D.flat0, a1, a2, w1]
  rw [iterL_eq]
  simp [D.den1, binD, unD, D.idx, partD, D.cells, outOf, denL, E.den, denVK, T.denV, fillD, D.flat, D.flat0, a1, a2, w1]
theorem e93 (a b m : Int) : evL FN 93 [.node [I a, I b], I m] = some (.node [I (min (max a 0) m), I (min (max b 0) m)]) := by
  refine evL_of (F := F93) rfl ?_
  have m1 : ∀ x : Int, (if x < 0 then 0 else x) = max x 0 := fun x => by split <;> omega
  have m2 : ∀ x y : Int, (if y < x then y else x) = min x y := fun x y => by split <;> omega
  simp [F93, Fn.denV, fits, T.denV, denL, E.den, D.cells, D.den1, mxLD, mxD, m1, m2]
theorem e94 (a b c d : Int) (h1 : -9000000000000000000 ≤ a - d ∧ a - d ≤ 9000000000000000000) (h2 : -9000000000000000000 ≤ b - c ∧ b - c ≤ 9000000000000000000) : evL FN 94 [.node [I a, I b], .node [I c, I d]] = some (.node [I (a - d), I (b - c)]) := by
  refine evL_of (F := F94) rfl ?_
  have k1 : IntKind.i64.wrap (a - d) = a - d := wI (by omega)
  have k2 : IntKind.i64.wrap (b - c) = b - c := wI (by omega)
  simp [F94, Fn.denV, fits, T.denV, denL, E.den, D.cells, D.den1, binD, k1, k2]
theorem e92 (a b c d e f m : Int) (h : 0 ≤ a ∧ a ≤ 100000000 ∧ 0 ≤ b ∧ b ≤ 100000000 ∧ 0 ≤ c ∧ c ≤ 100000000 ∧ 0 ≤ d ∧ d ≤ 100000000 ∧ 0 ≤ e ∧ e ≤ 100000000 ∧ 0 ≤ f ∧ f ≤ 100000000 ∧ 0 ≤ m ∧ m ≤ 100000000) :
    evL FN 92 [.node [I a, I b], .node [I c, I d], .node [I e, I f], I m] = some (.node [I (min (max (min (max (a - d) 0) m + e) 0) m), I (min (max (min (max (b - c) 0) m + f) 0) m)]) := by
  refine evL_of (F := F92) rfl ?_
  have h1 := e94 a b c d (by omega) (by omega)
  have h2 := e93 (a - d) (b - c) m
  have h3 := e90_2 (min (max (a - d) 0) m) (min (max (b - c) 0) m) e f (by omega)
  have h4 := e93 (min (max (a - d) 0) m + e) (min (max (b - c) 0) m + f) m
  generalize min (max (a - d) 0) m = x at *
  generalize min (max (b - c) 0) m = y at *
  simp only [I] at *
  simp [F92, Fn.denV, fits, T.denV, denL, E.den, D.cells, D.den1, h1, h2, h3, h4, fillD, D.flat, D.flat0]
structure CmOK (b : Br) (c : Cm) : Prop where
  a : 0 ≤ c.x0 ∧ c.x0 ≤ c.x1 ∧ c.x1 ≤ b.c0
  b : 0 ≤ c.x2 ∧ c.x2 ≤ c.x3 ∧ c.x3 ≤ b.c1
  c : 0 ≤ c.x4 ∧ c.x4 ≤ c.x5 ∧ c.x5 ≤ 1000
theorem cm_ok {b : Br} {c : Cm} (h : cmOK b c = true) : CmOK b c := by
  simp only [cmOK, inS, Bool.and_eq_true, decide_eq_true_eq] at h
  obtain ⟨⟨⟨e1, e2⟩, e3⟩, ⟨⟨f1, f2⟩, f3⟩, ⟨g1, g2⟩, g3⟩ := h
  exact ⟨⟨e1, e2, e3⟩, ⟨f1, f2, f3⟩, ⟨g1, g2, g3⟩⟩
theorem e61 (b : Br) (c : Cm) : evL FN 61 [.node b.d, .node c.d] = some (.node (b.d ++ c.d)) := by
  refine evL_of (F := F61) rfl ?_
  simp [F61, Fn.denV, fits, T.denV, denL, E.den, D.cells, Br.d, Cm.d]
theorem e64 (b : Br) (c : Cm) : evL FN 64 [.node (b.d ++ c.d)] = some (.node c.d) := by
  refine evL_of (F := F64) rfl ?_
  simp [F64, Fn.denV, fits, T.denV, denL, E.den, D.cells, Br.d, Cm.d]
/-- How an animal is after it rested and drank what it cost and wanted. -/
def rested (b : Br) (c : Cm) : Cm := ⟨b.c0, b.c0, c.x2, c.x3, min (max (c.x4 - b.c14) 0) 1000, min (max (c.x5 - b.c14) 0) 1000, c.x6⟩
theorem e63 (b : Br) (c : Cm) (hb : brOK b = true) (hc : cmOK b c = true) (h0 h1 d : Int) (hh : 0 ≤ h0 ∧ h0 ≤ h1 ∧ h1 ≤ 60) (hd : d = W1 b h1 c.x6 + b.c0 - c.x0) (hd1 : 0 ≤ d ∧ d ≤ 1000000) (hw : W1 b h1 c.x6 ≤ c.x0) :
    evL FN 63 [.node (b.d ++ c.d), .node [I 0, I 0, I h0, I h1, I 0, I 0, I d, I d]] = some (.node [.node (b.d ++ (rested b c).d), .int .u8 0]) := by
  refine evL_of (F := F63) rfl ?_
  have hB := br_ok hb
  have hC := cm_ok hc
  have hba := hB.a; have hg := hB.g; have hf0 := hB.f0; have hf1 := hB.f1; have hg0 := hB.g0; have hg1 := hB.g1
  have hca := hC.a; have hcb := hC.b; have hcc := hC.c
  obtain ⟨z1, z2, z3, -, -⟩ := W_bd hB hh c.x6
  have h62 := e62 b c hb h0 h1 0 0 d d hh
  have n1 : ¬ c.x1 < W0 b h0 c.x6 := by omega
  have n2 : ¬ c.x0 < W1 b h1 c.x6 := by omega
  have n3 : ¬ c.x3 < 0 := by omega
  have n4 : ¬ c.x2 < 0 := by omega
  have r1 := e92 c.x0 c.x1 (W0 b h0 c.x6) (W1 b h1 c.x6) d d b.c0 (by omega)
  have r2 := e92 c.x2 c.x3 0 0 0 0 b.c1 (by omega)
  rw [show min (max (min (max (c.x0 - W1 b h1 c.x6) 0) b.c0 + d) 0) b.c0 = b.c0 from by omega, show min (max (min (max (c.x1 - W0 b h0 c.x6) 0) b.c0 + d) 0) b.c0 = b.c0 from by omega] at r1
  rw [show min (max (min (max (c.x2 - 0) 0) b.c1 + 0) 0) b.c1 = c.x2 from by omega, show min (max (min (max (c.x3 - 0) 0) b.c1 + 0) 0) b.c1 = c.x3 from by omega] at r2
  have r3 := e90_2 c.x4 c.x5 0 0 (by omega)
  simp only [Int.add_zero] at r3
  have r4 := e89 b.c14
  have r5 := e94 c.x4 c.x5 b.c14 b.c14 (by omega) (by omega)
  have r6 := e93 (c.x4 - b.c14) (c.x5 - b.c14) 1000
  unfold rested
  generalize W0 b h0 c.x6 = w0 at *
  generalize W1 b h1 c.x6 = w1 at *
  generalize min (max (c.x4 - b.c14) 0) 1000 = s0 at *
  generalize min (max (c.x5 - b.c14) 0) 1000 = s1 at *
  simp only [Br.d, Cm.d, I, List.cons_append, List.nil_append] at *
  simp [F63, Fn.denV, fits, T.denV, denL, E.den, D.cells, D.den1, binD, h62, outOf, denVK, n1, n2, n3, n4, r1, r2, r3, r4, r5, r6, fillD, D.flat, D.flat0]
theorem e23 (b : Br) (c : Cm) (hb : brOK b = true) (hc : cmOK b c = true) (h0 h1 d : Int) (hh : inS h0 h1 0 60 = true) (hd : d = W1 b h1 c.x6 + b.c0 - c.x0) (hd1 : 0 ≤ d ∧ d ≤ 1000000) (hw : W1 b h1 c.x6 ≤ c.x0) :
    evL FN 23 [.node b.d, .node c.d, .node [I 0, I 0, I h0, I h1, I 0, I 0, I d, I d]] = some (.node [.node (rested b c).d, .int .u8 0, I 0]) := by
  refine evL_of (F := F23) rfl ?_
  have hh' : 0 ≤ h0 ∧ h0 ≤ h1 ∧ h1 ≤ 60 := by simp only [inS, Bool.and_eq_true, decide_eq_true_eq] at hh; omega
  have h59 := e59 b c
  have h60 := e60 h0 h1 d hh hd1
  have h61 := e61 b c
  have h63 := e63 b c hb hc h0 h1 d hh' hd hd1 hw
  have h64 := e64 b (rested b c)
  rw [show cmE b c = 0 from by simp [cmE, hb, hc]] at h59
  generalize rested b c = c' at *
  simp only [Br.d, Cm.d, I, List.cons_append, List.nil_append] at *
  simp [F23, Fn.denV, fits, T.denV, denL, E.den, D.cells, D.den1, binD, h59, h60, h61, h63, h64, fillD, D.flat, D.flat0]
theorem e21 (b : Br) (mk : Bool) (hb : brOK b = true) (h0 h1 : Int) (hh : inS h0 h1 0 60 = true) :
    evL FN 21 [.node b.d, .bool mk, .node [I 0, I 0, I h0, I h1, I 0, I 0, I 0, I 0]] = some (.node [.node [I (W0 b h0 mk), I (W1 b h1 mk)], .node [I 0, I 0], I 0]) := by
  refine evL_of (F := F21) rfl ?_
  have hh' : 0 ≤ h0 ∧ h0 ≤ h1 ∧ h1 ≤ 60 := by simp only [inS, Bool.and_eq_true, decide_eq_true_eq] at hh; omega
  have h58 := e58 b
  have h60 := e60 h0 h1 0 hh (by omega)
  have h61 := e61 b ⟨0, 0, 0, 0, 0, 0, mk⟩
  have h62 := e62 b ⟨0, 0, 0, 0, 0, 0, mk⟩ hb h0 h1 0 0 0 0 hh'
  rw [hb] at h58
  simp only [if_true] at h58
  generalize W0 b h0 mk = w0 at *
  generalize W1 b h1 mk = w1 at *
  simp only [Br.d, Cm.d, I, List.cons_append, List.nil_append] at *
  simp [F21, Fn.denV, fits, T.denV, denL, E.den, D.cells, D.den1, binD, h58, h60, h61, h62, fillD, D.flat, D.flat0]
end Go.Q
