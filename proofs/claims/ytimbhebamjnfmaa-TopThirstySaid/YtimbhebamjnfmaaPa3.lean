/- Ported: camel (Ra7 to Rb3) -/
import Derived.Test.YtimbhebamjnfmaaPa2
set_option linter.unusedVariables false
set_option linter.unusedSimpArgs false
set_option maxRecDepth 100000
namespace Go.Q
open Go.V
theorem e192 (b : Br) (c : Cm) (hb : brOK b = true) (m : Mr) (hm : mrOK m = true) :
    evL FN 192 [.node (b.d ++ c.d), .node m.d] = some (.node [I (A0 b m c.x6), I (A1 b m c.x6), I (A2 b m), I (A3 b m), I (A4 b m), I (A5 b m)]) := by
  refine evL_of (F := F192) rfl ?_
  have hB := br_ok hb
  have hM := mr_ok hm
  have hba := hB.a; have hbb := hB.b; have hbc := hB.c; have hbd := hB.d; have hbe := hB.e; have hbf := hB.f
  have hh := hM.h; have hl := hM.l; have ht := hM.t
  obtain ⟨w1, w2, w3, w4⟩ := wrk_bd hM
  have u0 : 0 ≤ hot m.t0 ∧ hot m.t0 ≤ 40 := by unfold hot; omega
  have u1 : 0 ≤ hot m.t1 ∧ hot m.t1 ≤ 40 := by unfold hot; omega
  have t1 : IntKind.i64.wrap (m.t0 - 20) = m.t0 - 20 := wI (by omega)
  have t2 : IntKind.i64.wrap (m.t1 - 20) = m.t1 - 20 := wI (by omega)
  have t3 : IntKind.i64.wrap (100000 + m.l) = 100000 + m.l := wI (by omega)
  have t4 : IntKind.i64.wrap (wrk m) = wrk m := wI (by omega)
  have t5 : IntKind.i64.wrap (m.h * m.l) = m.h * m.l := wI (by omega)
  have h106 := e124 (wrk m)
  have h106' := e124 (m.h * m.l)
  have s1 := e203_2 1 b.c4 b.c5 (hot m.t0) (hot m.t1) (by omega) (by omega)
  have s2 := e203_2 100000 b.c6 b.c7 (wrk m) (wrk m) (by omega) (by omega)
  have s3 := e203_2 100000 b.c8 b.c9 (wrk m) (wrk m) (by omega) (by omega)
  have s4 := e203_2 1000000 b.c10 b.c11 (m.h * m.l) (m.h * m.l) (by omega) (by omega)
  rw [show (b.c4 * hot m.t0).tdiv 1 = b.c4 * hot m.t0 from Int.tdiv_one _, show (b.c5 * hot m.t1 + 1 - 1).tdiv 1 = b.c5 * hot m.t1 from by rw [Int.tdiv_one]; omega] at s1
  have p1 : 0 ≤ b.c4 * hot m.t0 := Int.mul_nonneg (by omega) (by omega)
  have p2 : b.c4 * hot m.t0 ≤ 100000 * 40 := Int.mul_le_mul (by omega) (by omega) (by omega) (by omega)
  have p3 : 0 ≤ b.c5 * hot m.t1 := Int.mul_nonneg (by omega) (by omega)
  have p4 : b.c5 * hot m.t1 ≤ 100000 * 40 := Int.mul_le_mul (by omega) (by omega) (by omega) (by omega)
  have sb1 := sc_bd (k := 100000) (a := b.c6) (b := b.c7) (x := wrk m) (N := 26400000) (by omega) (by omega) (by omega) w1 (by have := mul_1e5 (a := b.c7) (by omega) w1; omega)
  have y1 := e196_3 b.c2 b.c3 (b.c4 * hot m.t0) (b.c5 * hot m.t1) ((b.c6 * wrk m).tdiv 100000) ((b.c7 * wrk m + 100000 - 1).tdiv 100000) (by omega)
  have y2 := e196_2 (b.c2 + b.c4 * hot m.t0 + (b.c6 * wrk m).tdiv 100000) (b.c3 + b.c5 * hot m.t1 + (b.c7 * wrk m + 100000 - 1).tdiv 100000) b.c12 b.c13 (by omega)
  have m1 : (if 20 < m.t0 then m.t0 - 20 else 0) = hot m.t0 := by unfold hot; split <;> omega
  have m2 : (if 20 < m.t1 then m.t1 - 20 else 0) = hot m.t1 := by unfold hot; split <;> omega
  have ew : m.h * (100000 + m.l) = wrk m := rfl
  unfold A0 A1 A2 A3 A4 A5
  generalize hot m.t0 = v0 at *
  generalize hot m.t1 = v1 at *
  generalize wrk m = w at *
  generalize b.c4 * v0 = p0 at *
  generalize b.c5 * v1 = p1 at *
  generalize (b.c6 * w).tdiv 100000 = z2 at *
  generalize (b.c7 * w + 100000 - 1).tdiv 100000 = z3 at *
  generalize (b.c8 * w).tdiv 100000 = z4 at *
  generalize (b.c9 * w + 100000 - 1).tdiv 100000 = z5 at *
  generalize (b.c10 * (m.h * m.l)).tdiv 1000000 = z6 at *
  generalize (b.c11 * (m.h * m.l) + 1000000 - 1).tdiv 1000000 = z7 at *
  simp only [Br.d, Cm.d, Mr.d, I] at *
  simp [F192, Fn.denV, fits, T.denV, denL, E.den, D.cells, D.den1, binD, mxLD, mxD, t1, t2, t3, ew, t4, h106, m1, m2, fillD, D.flat, D.flat0, s1, s2, y1]
  cases c.x6
  · simp [outOf, denL, E.den, denVK, T.denV, D.cells, D.den1, binD, fillD, D.flat, D.flat0, s3, s4, h106', t5]
  · simp [outOf, denL, E.den, denVK, T.denV, D.cells, D.den1, binD, fillD, D.flat, D.flat0, y2, s3, s4, h106', t5]
def dead (b : Br) (m : Mr) (c : Cm) : Bool := decide (c.x1 < A0 b m c.x6) || decide (c.x3 < A2 b m)
def weak (b : Br) (m : Mr) (c : Cm) : Bool := decide (c.x0 < A1 b m c.x6) || decide (c.x2 < A3 b m)
def clp (x m : Int) : Int := min (max x 0) m
def heal (b : Br) (m : Mr) : Int := if m.h = 0 then b.c14 else 0
/-- How an animal is after a day on which it did not die. -/
def eve (b : Br) (m : Mr) (c : Cm) : Cm := ⟨clp (clp (c.x0 - A1 b m c.x6) b.c0 + m.q0) b.c0, clp (clp (c.x1 - A0 b m c.x6) b.c0 + m.q1) b.c0, clp (clp (c.x2 - A3 b m) b.c1 + m.e0) b.c1, clp (clp (c.x3 - A2 b m) b.c1 + m.e1) b.c1,
  clp (c.x4 + A4 b m - heal b m) 1000, clp (c.x5 + A5 b m - heal b m) 1000, c.x6⟩
def zw : List D := List.replicate 23 (I 0) ++ [.bool false]
theorem eve_ok {b : Br} {m : Mr} {c : Cm} (hb : brOK b = true) (hm : mrOK m = true) (hc : cmOK b c = true) : cmOK b (eve b m c) = true := by
  have hB := br_ok hb
  have hM := mr_ok hm
  have hC := cm_ok hc
  obtain ⟨h1, h2, h3⟩ := A_bd hB hM c.x6
  have := hC.a; have := hC.b; have := hC.c; have := hM.e; have := hM.q; have := hB.g; have := hB.f0; have := hB.g0
  unfold eve heal clp
  simp only [cmOK, inS, Bool.and_eq_true, decide_eq_true_eq]
  refine ⟨⟨⟨?_, ?_⟩, ?_⟩, ⟨⟨?_, ?_⟩, ?_⟩, ⟨?_, ?_⟩, ?_⟩ <;> (try split) <;> omega
theorem e176 (b : Br) (c : Cm) (m : Mr) (hb : brOK b = true) (hc : cmOK b c = true) (hm : mrOK m = true) :
    evL FN 176 [.node (b.d ++ c.d), .node m.d] = some (if dead b m c then .node [.node zw, .int .u8 2] else .node [.node (b.d ++ (eve b m c).d), .int .u8 (if weak b m c then 1 else 0)]) := by
  refine evL_of (F := F176) rfl ?_
  have hB := br_ok hb
  have hM := mr_ok hm
  have hC := cm_ok hc
  have hba := hB.a; have hg := hB.g; have hf0 := hB.f0; have hf1 := hB.f1; have hg0 := hB.g0; have hg1 := hB.g1
  have hca := hC.a; have hcb := hC.b; have hcc := hC.c
  have hme := hM.e; have hmq := hM.q
  obtain ⟨z1, z2, z3⟩ := A_bd hB hM c.x6
  have h138 := e192 b c hb m hm
  have r1 := e193 c.x0 c.x1 (A0 b m c.x6) (A1 b m c.x6) m.q0 m.q1 b.c0 (by omega)
  have r2 := e193 c.x2 c.x3 (A2 b m) (A3 b m) m.e0 m.e1 b.c1 (by omega)
  have r3 := e196_2 c.x4 c.x5 (A4 b m) (A5 b m) (by omega)
  have r4 := e124 (heal b m)
  have hhe : 0 ≤ heal b m ∧ heal b m ≤ 1000 := by unfold heal; split <;> omega
  have r5 := e195 (c.x4 + A4 b m) (c.x5 + A5 b m) (heal b m) (heal b m) (by omega) (by omega)
  have r6 := e194 (c.x4 + A4 b m - heal b m) (c.x5 + A5 b m - heal b m) 1000
  have hheal : heal b m = if m.h = 0 then b.c14 else 0 := rfl
  unfold eve dead weak clp
  generalize heal b m = he at *
  generalize A0 b m c.x6 = a0 at *
  generalize A1 b m c.x6 = a1 at *
  generalize A2 b m = a2 at *
  generalize A3 b m = a3 at *
  generalize A4 b m = a4 at *
  generalize A5 b m = a5 at *
  generalize min (max (min (max (c.x0 - a1) 0) b.c0 + m.q0) 0) b.c0 = k0 at *
  generalize min (max (min (max (c.x1 - a0) 0) b.c0 + m.q1) 0) b.c0 = k1 at *
  generalize min (max (min (max (c.x2 - a3) 0) b.c1 + m.e0) 0) b.c1 = k2 at *
  generalize min (max (min (max (c.x3 - a2) 0) b.c1 + m.e1) 0) b.c1 = k3 at *
  generalize min (max (c.x4 + a4 - he) 0) 1000 = k4 at *
  generalize min (max (c.x5 + a5 - he) 0) 1000 = k5 at *
  simp only [Br.d, Cm.d, Mr.d, I, List.cons_append, List.nil_append] at *
  by_cases n1 : c.x1 < a0
  · simp [F176, Fn.denV, fits, T.denV, denL, E.den, D.cells, D.den1, binD, h138, outOf, denVK, n1, zw, I]
  by_cases n2 : c.x0 < a1 <;> by_cases n3 : c.x3 < a2
  · simp [F176, Fn.denV, fits, T.denV, denL, E.den, D.cells, D.den1, binD, h138, outOf, denVK, n1, n2, n3, zw, I]
  · by_cases n4 : c.x2 < a3 <;> by_cases n5 : m.h = 0
    · rw [if_pos n5] at hheal; subst hheal; rw [n5] at h138
      simp [F176, Fn.denV, fits, T.denV, denL, E.den, D.cells, D.den1, binD, h138, outOf, denVK, n1, n2, n3, n4, n5, r1, r2, r3, r4, r5, r6, fillD, D.flat, D.flat0]
    · rw [if_neg n5] at hheal; subst hheal; simp only [Int.sub_zero] at r5 r6
      simp [F176, Fn.denV, fits, T.denV, denL, E.den, D.cells, D.den1, binD, h138, outOf, denVK, n1, n2, n3, n4, n5, r1, r2, r3, r4, r5, r6, fillD, D.flat, D.flat0]
    · rw [if_pos n5] at hheal; subst hheal; rw [n5] at h138
      simp [F176, Fn.denV, fits, T.denV, denL, E.den, D.cells, D.den1, binD, h138, outOf, denVK, n1, n2, n3, n4, n5, r1, r2, r3, r4, r5, r6, fillD, D.flat, D.flat0]
    · rw [if_neg n5] at hheal; subst hheal; simp only [Int.sub_zero] at r5 r6
      simp [F176, Fn.denV, fits, T.denV, denL, E.den, D.cells, D.den1, binD, h138, outOf, denVK, n1, n2, n3, n4, n5, r1, r2, r3, r4, r5, r6, fillD, D.flat, D.flat0]
  · simp [F176, Fn.denV, fits, T.denV, denL, E.den, D.cells, D.den1, binD, h138, outOf, denVK, n1, n2, n3, zw, I]
  · by_cases n4 : c.x2 < a3 <;> by_cases n5 : m.h = 0
    · rw [if_pos n5] at hheal; subst hheal; rw [n5] at h138
      simp [F176, Fn.denV, fits, T.denV, denL, E.den, D.cells, D.den1, binD, h138, outOf, denVK, n1, n2, n3, n4, n5, r1, r2, r3, r4, r5, r6, fillD, D.flat, D.flat0]
    · rw [if_neg n5] at hheal; subst hheal; simp only [Int.sub_zero] at r5 r6
      simp [F176, Fn.denV, fits, T.denV, denL, E.den, D.cells, D.den1, binD, h138, outOf, denVK, n1, n2, n3, n4, n5, r1, r2, r3, r4, r5, r6, fillD, D.flat, D.flat0]
    · rw [if_pos n5] at hheal; subst hheal; rw [n5] at h138
      simp [F176, Fn.denV, fits, T.denV, denL, E.den, D.cells, D.den1, binD, h138, outOf, denVK, n1, n2, n3, n4, n5, r1, r2, r3, r4, r5, r6, fillD, D.flat, D.flat0]
    · rw [if_neg n5] at hheal; subst hheal; simp only [Int.sub_zero] at r5 r6
      simp [F176, Fn.denV, fits, T.denV, denL, E.den, D.cells, D.den1, binD, h138, outOf, denVK, n1, n2, n3, n4, n5, r1, r2, r3, r4, r5, r6, fillD, D.flat, D.flat0]
theorem e174 (xs : List Mr) (hl : xs.length ≤ 100) (hx : ∀ m ∈ xs, mrOK m = true) : evL FN 174 [.list (xs.map Mr.d)] = some (I 0) := by
  refine evL_of (F := F174) rfl ?_
  simp [F174, Fn.denV, fits, T.denV, denL, E.den, D.den1, binD]
  rw [iter_all (p := fun _ : Mr => true) (t := 0) (u := 1) (xs := xs)]
  · simp [denVK, T.denV, E.den]
  · intro i m hi
    obtain ⟨hlt, rfl⟩ := List.getElem?_eq_some_iff.1 hi
    have hm := hx _ (List.getElem_mem hlt)
    generalize hp : xs[i] = m at *
    have hM := mr_ok hm
    have a := hM.h; have b := hM.l; have c := hM.t; have d := hM.e; have e := hM.q
    have h1 := e191 60 [(m.t0, m.t1)] (by simp)
    have h2 := e191 1000000 [(m.e0, m.e1), (m.q0, m.q1)] (by simp)
    have q1 : ([(m.t0, m.t1)].all fun p => inS p.1 p.2 0 60) = true := by simp [inS]; omega
    have q2 : ([(m.e0, m.e1), (m.q0, m.q1)].all fun p => inS p.1 p.2 0 1000000) = true := by simp [inS]; omega
    rw [q1] at h1
    rw [q2] at h2
    simp only [List.map_cons, List.map_nil, I] at h1 h2
    have n1 : ¬ m.h < 0 := by omega
    have n2 : ¬ 24 < m.h := by omega
    have n3 : ¬ m.l < 0 := by omega
    have n4 : ¬ 1000000 < m.l := by omega
    simp [hlt, idx_nat hlt, hi, hp, Mr.d, partD, D.cells, binD, D.den1, wrapN (show i < 9223372036854775807 by omega), n1, n2, n3, n4, outOf, denL, E.den, denVK, T.denV, fillD, h1, h2, D.flat, D.flat0, unD, I]
  · simp [outOf, denL]
theorem e123 (b : Br) (c : Cm) (xs : List Mr) (hb : brOK b = true) (hc : cmOK b c = true) (hl : xs.length ≤ 60) (hx : ∀ m ∈ xs, mrOK m = true) : evL FN 123 [.node b.d, .node c.d, .list (xs.map Mr.d)] = some (I 0) := by
  refine evL_of (F := F123) rfl ?_
  have h1 := e173 b c
  have h2 := e174 xs (by omega) hx
  rw [show cmE b c = 0 from by simp [cmE, hb, hc]] at h1
  have hn : ¬ (60 : Int) < (xs.length : Int) := by omega
  simp only [Br.d, Cm.d, I] at h1 h2 ⊢
  simp [F123, Fn.denV, fits, T.denV, denL, E.den, D.cells, D.den1, binD, h1, h2, hn]
theorem e127 (m : Mr) : evL FN 127 [.list [m.d], I 60] = some (.list (List.replicate 60 m.d)) := by
  refine evL_of (F := F127) rfl ?_
  unfold Mr.d
  show _ = _
  kernel_rfl
theorem shal_mr {n : Nat} {xs : List Mr} : D.shal (n + 1) (.list (xs.map Mr.d)) = true := by
  simp only [D.shal, D.shal1, D.shal0]
  rw [Bool.and_eq_true, List.all_eq_true]
  refine ⟨by simp, fun x hx => ?_⟩
  obtain ⟨m, -, rfl⟩ := List.mem_map.1 hx
  cases n <;> rfl
/-- How an animal is after so many days. -/
def cI (b : Br) (m : Mr) (c : Cm) : Nat → Cm
  | 0 => c
  | i + 1 => eve b m (cI b m c i)
theorem cI_ok {b : Br} {m : Mr} {c : Cm} (hb : brOK b = true) (hm : mrOK m = true) (hc : cmOK b c = true) : ∀ i, cmOK b (cI b m c i) = true
  | 0 => hc
  | i + 1 => eve_ok hb hm (cI_ok hb hm hc i)
/-- The first day on which it may die, of those before one. -/
def loS (b : Br) (m : Mr) (c : Cm) : Nat → Int
  | 0 => 60
  | i + 1 => if weak b m (cI b m c i) then min (loS b m c i) i else loS b m c i
def liv (b : Br) (m : Mr) (c : Cm) (i : Nat) : Bool := !dead b m (cI b m c i)
def lasL (b : Br) (m : Mr) (c : Cm) : Int := match firstN (liv b m c) 60 0 with
  | some j => min (loS b m c j) j
  | none => loS b m c 60
def lasH (b : Br) (m : Mr) (c : Cm) : Int := match firstN (liv b m c) 60 0 with
  | some j => j
  | none => 60
theorem lo_le {b : Br} {m : Mr} {c : Cm} : ∀ {n i : Nat}, i < n → weak b m (cI b m c i) = true → loS b m c n ≤ i
  | n + 1, i, h, hw => by
    unfold loS
    by_cases e : i = n
    · subst e; rw [if_pos hw]; omega
    · have := lo_le (b := b) (m := m) (c := c) (n := n) (i := i) (by omega) hw
      split <;> omega
theorem lo_60 {b : Br} {m : Mr} {c : Cm} : ∀ n, loS b m c n ≤ 60
  | 0 => by unfold loS; omega
  | n + 1 => by
    have := lo_60 (b := b) (m := m) (c := c) n
    unfold loS
    split <;> omega
/-- On the days before it lives for sure. -/
theorem las_live {b : Br} {m : Mr} {c : Cm} {i : Nat} (h : (i : Int) < lasL b m c) : i < 60 ∧ dead b m (cI b m c i) = false ∧ weak b m (cI b m c i) = false := by
  unfold lasL at h
  cases e : firstN (liv b m c) 60 0 with
  | none =>
    rw [e] at h
    simp only at h
    have h60 := lo_60 (b := b) (m := m) (c := c) 60
    have hi : i < 60 := by omega
    refine ⟨hi, ?_, ?_⟩
    · have := firstN_none.1 e i (by omega) (by omega)
      simpa [liv] using this
    · cases hw : weak b m (cI b m c i) with
      | false => rfl
      | true => have := lo_le (n := 60) hi hw; omega
  | some j =>
    rw [e] at h
    simp only at h
    obtain ⟨h1, h2, h3, h4⟩ := firstN_some e
    have hi : i < j := by omega
    refine ⟨by omega, ?_, ?_⟩
    · have := h4 i (by omega) hi
      simpa [liv] using this
    · cases hw : weak b m (cI b m c i) with
      | false => rfl
      | true => have := lo_le (n := j) hi hw; omega
def stL (b : Br) (m : Mr) (c : Cm) (i : Nat) : List D := I i :: (b.d ++ (cI b m c i).d ++ [I (loS b m c i), I 60])
theorem e39 (b : Br) (c : Cm) (m : Mr) (hb : brOK b = true) (hc : cmOK b c = true) (hm : mrOK m = true) : evL FN 39 [.node b.d, .node c.d, .node m.d] = some (.node [.node [I (lasL b m c), I (lasH b m c)], I 0]) := by
  refine evL_of (F := F39) rfl ?_
  have h105 := e123 b c [m] hb hc (by simp) (by simpa using hm)
  have h106 := e124 60
  have h107 := e125 b c
  have h109 := e127 m
  have hsh : D.shal 1 (.list (List.replicate 60 m.d)) = true := by
    have := shal_mr (n := 0) (xs := List.replicate 60 m)
    rwa [List.map_replicate] at this
  have hlen : (List.replicate 60 m.d).length = 60 := List.length_replicate
  have hget : ∀ i, i < 60 → (List.replicate 60 m.d)[i]? = some m.d := fun i hi => by rw [List.getElem?_replicate, if_pos hi]
  generalize List.replicate 60 m.d = L at *
  have hstep : ∀ i, i < 60 → evL FN 176 [.node (b.d ++ (cI b m c i).d), .node m.d] = some (if dead b m (cI b m c i) then .node [.node zw, .int .u8 2] else .node [.node (b.d ++ (cI b m c (i + 1)).d), .int .u8 (if weak b m (cI b m c i) then 1 else 0)]) := fun i _ => e176 b (cI b m c i) m hb (cI_ok hb hm hc i) hm
  have hlo : ∀ i, loS b m c (i + 1) = if weak b m (cI b m c i) then min (loS b m c i) i else loS b m c i := fun i => rfl
  simp only [Br.d, Cm.d, Mr.d, I, List.map_cons, List.map_nil, List.cons_append, List.nil_append] at h105 h106 h107 h109 hget ⊢
  simp [F39, Fn.denV, fits, T.denV, denL, E.den, D.cells, D.den1, binD, h105, h106, h107, h109, fillD, D.flat, D.flat0, hsh, hlen]
  rw [iter_nat 60 (liv b m c) (stL b m c) 0 1 (fun i => [I (min (loS b m c i) i), I i]) [I (loS b m c 60), I 60]]
  · unfold lasL lasH
    cases firstN (liv b m c) 60 0 <;> simp [outOf, denL, E.den, denVK, T.denV, I]
  · simp [stL, Br.d, Cm.d, I, cI, loS]
  · intro i hi _
    have h127 := hstep i hi
    have hlo := hlo i
    have hw := wrapN (show i < 9223372036854775807 by omega)
    have hi' : (i : Int) < 60 := by omega
    have hg := hget i hi
    have hidx := idx_nat (i := i) (n := 60) hi
    have hmin : (if (i : Int) < loS b m c i then (i : Int) else loS b m c i) = min (loS b m c i) i := by split <;> omega
    unfold stL liv
    rw [hlo]
    generalize cI b m c i = c1 at *
    generalize cI b m c (i + 1) = c2 at *
    generalize loS b m c i = lo at *
    simp only [Br.d, Cm.d, Mr.d, I, List.cons_append, List.nil_append] at h127 ⊢
    cases hd : dead b m c1 <;> cases hwk : weak b m c1 <;> rw [hd] at h127 <;> rw [hwk] at h127 <;>
      simp [zw, I] at h127 <;>
      simp [outOf, denL, E.den, denVK, T.denV, D.cells, D.den1, binD, hi', hlen, hidx, hg, partD, h127, mxLD, mxD, hw, hmin]
  · simp [stL, Br.d, Cm.d, outOf, denL, E.den, denVK, T.denV, D.cells, D.den1, binD, I]
end Go.Q
