/- Camel: After of any day. -/
import Derived.Test.YtecgohommehdpaaRa7
set_option linter.unusedVariables false
set_option linter.unusedSimpArgs false
set_option maxRecDepth 100000
namespace Go.Q
open Go.V
def dead (b : Br) (m : Mr) (c : Cm) : Bool := decide (c.x1 < A0 b m c.x6) || decide (c.x3 < A2 b m)
def weak (b : Br) (m : Mr) (c : Cm) : Bool := decide (c.x0 < A1 b m c.x6) || decide (c.x2 < A3 b m)
def clp (x m : Int) : Int := min (max x 0) m
def heal (b : Br) (m : Mr) : Int := if m.h = 0 then b.c14 else 0
/-- How an animal is after a day on which it did not die. -/
def eve (b : Br) (m : Mr) (c : Cm) : Cm := ⟨clp (clp (c.x0 - A1 b m c.x6) b.c0 + m.q0) b.c0, clp (clp (c.x1 - A0 b m c.x6) b.c0 + m.q1) b.c0, clp (clp (c.x2 - A3 b m) b.c1 + m.e0) b.c1, clp (clp (c.x3 - A2 b m) b.c1 + m.e1) b.c1,
  clp (c.x4 + A4 b m - heal b m) 1000, clp (c.x5 + A5 b m - heal b m) 1000, c.x6⟩
def zw : List D := List.replicate 23 (I 0) ++ [.bool false]
theorem eve_ok {b : Br} {m : Mr} {c : Cm} (hb : brOK b = true) (hm : mrOK m = true) (hc : cmOK b c = true) : cmOK b (eve b m c) = true := by
  have hB := br_ok hb
  have hM := mr_ok hm
  have hC := cm_ok hc
  obtain ⟨h1, h2, h3⟩ := A_bd hB hM c.x6
  have := hC.a; have := hC.b; have := hC.c; have := hM.e; have := hM.q; have := hB.g; have := hB.f0; have := hB.g0
  unfold eve heal clp
  simp only [cmOK, inS, Bool.and_eq_true, decide_eq_true_eq]
  refine ⟨⟨⟨?_, ?_⟩, ?_⟩, ⟨⟨?_, ?_⟩, ?_⟩, ⟨?_, ?_⟩, ?_⟩ <;> (try split) <;> omega
theorem e127 (b : Br) (c : Cm) (m : Mr) (hb : brOK b = true) (hc : cmOK b c = true) (hm : mrOK m = true) :
    evL FN 127 [.node (b.d ++ c.d), .node m.d] = some (if dead b m c then .node [.node zw, .int .u8 2] else .node [.node (b.d ++ (eve b m c).d), .int .u8 (if weak b m c then 1 else 0)]) := by
  refine evL_of (F := F127) rfl ?_
  have hB := br_ok hb
  have hM := mr_ok hm
  have hC := cm_ok hc
  have hba := hB.a; have hg := hB.g; have hf0 := hB.f0; have hf1 := hB.f1; have hg0 := hB.g0; have hg1 := hB.g1
  have hca := hC.a; have hcb := hC.b; have hcc := hC.c
  have hme := hM.e; have hmq := hM.q
  obtain ⟨z1, z2, z3⟩ := A_bd hB hM c.x6
  have h138 := e138 b c hb m hm
  have r1 := e139 c.x0 c.x1 (A0 b m c.x6) (A1 b m c.x6) m.q0 m.q1 b.c0 (by omega)
  have r2 := e139 c.x2 c.x3 (A2 b m) (A3 b m) m.e0 m.e1 b.c1 (by omega)
  have r3 := e142_2 c.x4 c.x5 (A4 b m) (A5 b m) (by omega)
  have r4 := e106 (heal b m)
  have hhe : 0 ≤ heal b m ∧ heal b m ≤ 1000 := by unfold heal; split <;> omega
  have r5 := e141 (c.x4 + A4 b m) (c.x5 + A5 b m) (heal b m) (heal b m) (by omega) (by omega)
  have r6 := e140 (c.x4 + A4 b m - heal b m) (c.x5 + A5 b m - heal b m) 1000
  have hheal : heal b m = if m.h = 0 then b.c14 else 0 := rfl
  unfold eve dead weak clp
  generalize heal b m = he at *
  generalize A0 b m c.x6 = a0 at *
  generalize A1 b m c.x6 = a1 at *
  generalize A2 b m = a2 at *
  generalize A3 b m = a3 at *
  generalize A4 b m = a4 at *
  generalize A5 b m = a5 at *
  generalize min (max (min (max (c.x0 - a1) 0) b.c0 + m.q0) 0) b.c0 = k0 at *
  generalize min (max (min (max (c.x1 - a0) 0) b.c0 + m.q1) 0) b.c0 = k1 at *
  generalize min (max (min (max (c.x2 - a3) 0) b.c1 + m.e0) 0) b.c1 = k2 at *
  generalize min (max (min (max (c.x3 - a2) 0) b.c1 + m.e1) 0) b.c1 = k3 at *
  generalize min (max (c.x4 + a4 - he) 0) 1000 = k4 at *
  generalize min (max (c.x5 + a5 - he) 0) 1000 = k5 at *
  simp only [Br.d, Cm.d, Mr.d, I, List.cons_append, List.nil_append] at *
  by_cases n1 : c.x1 < a0
  · simp [F127, Fn.denV, fits, T.denV, denL, E.den, D.cells, D.den1, binD, h138, outOf, denVK, n1, zw, I]
  by_cases n2 : c.x0 < a1 <;> by_cases n3 : c.x3 < a2
  · simp [F127, Fn.denV, fits, T.denV, denL, E.den, D.cells, D.den1, binD, h138, outOf, denVK, n1, n2, n3, zw, I]
  · by_cases n4 : c.x2 < a3 <;> by_cases n5 : m.h = 0
    · rw [if_pos n5] at hheal; subst hheal; rw [n5] at h138
      simp [F127, Fn.denV, fits, T.denV, denL, E.den, D.cells, D.den1, binD, h138, outOf, denVK, n1, n2, n3, n4, n5, r1, r2, r3, r4, r5, r6, fillD, D.flat, D.flat0]
    · rw [if_neg n5] at hheal; subst hheal; simp only [Int.sub_zero] at r5 r6
      simp [F127, Fn.denV, fits, T.denV, denL, E.den, D.cells, D.den1, binD, h138, outOf, denVK, n1, n2, n3, n4, n5, r1, r2, r3, r4, r5, r6, fillD, D.flat, D.flat0]
    · rw [if_pos n5] at hheal; subst hheal; rw [n5] at h138
      simp [F127, Fn.denV, fits, T.denV, denL, E.den, D.cells, D.den1, binD, h138, outOf, denVK, n1, n2, n3, n4, n5, r1, r2, r3, r4, r5, r6, fillD, D.flat, D.flat0]
    · rw [if_neg n5] at hheal; subst hheal; simp only [Int.sub_zero] at r5 r6
      simp [F127, Fn.denV, fits, T.denV, denL, E.den, D.cells, D.den1, binD, h138, outOf, denVK, n1, n2, n3, n4, n5, r1, r2, r3, r4, r5, r6, fillD, D.flat, D.flat0]
  · simp [F127, Fn.denV, fits, T.denV, denL, E.den, D.cells, D.den1, binD, h138, outOf, denVK, n1, n2, n3, zw, I]
  · by_cases n4 : c.x2 < a3 <;> by_cases n5 : m.h = 0
    · rw [if_pos n5] at hheal; subst hheal; rw [n5] at h138
      simp [F127, Fn.denV, fits, T.denV, denL, E.den, D.cells, D.den1, binD, h138, outOf, denVK, n1, n2, n3, n4, n5, r1, r2, r3, r4, r5, r6, fillD, D.flat, D.flat0]
    · rw [if_neg n5] at hheal; subst hheal; simp only [Int.sub_zero] at r5 r6
      simp [F127, Fn.denV, fits, T.denV, denL, E.den, D.cells, D.den1, binD, h138, outOf, denVK, n1, n2, n3, n4, n5, r1, r2, r3, r4, r5, r6, fillD, D.flat, D.flat0]
    · rw [if_pos n5] at hheal; subst hheal; rw [n5] at h138
      simp [F127, Fn.denV, fits, T.denV, denL, E.den, D.cells, D.den1, binD, h138, outOf, denVK, n1, n2, n3, n4, n5, r1, r2, r3, r4, r5, r6, fillD, D.flat, D.flat0]
    · rw [if_neg n5] at hheal; subst hheal; simp only [Int.sub_zero] at r5 r6
      simp [F127, Fn.denV, fits, T.denV, denL, E.den, D.cells, D.den1, binD, h138, outOf, denVK, n1, n2, n3, n4, n5, r1, r2, r3, r4, r5, r6, fillD, D.flat, D.flat0]
end Go.Q
