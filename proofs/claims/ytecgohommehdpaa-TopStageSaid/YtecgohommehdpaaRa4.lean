/- Breeds and camels (TopStage). -/
import Derived.Test.YtecgohommehdpaaRa3
set_option linter.unusedVariables false
set_option linter.unusedSimpArgs false
set_option maxRecDepth 100000
namespace Go.Q
open Go.V
def wlo (w : Wl) (h n : Int) : Int := min w.room (h + n * w.yl)
def whi (w : Wl) (h n : Int) : Int := min w.room (h + n * w.yh)
structure WlOK (w : Wl) : Prop where
  y0 : 0 ≤ w.yl
  y1 : w.yl ≤ w.yh
  y2 : w.yh ≤ 10000000
  r0 : 0 ≤ w.room
  r1 : w.room ≤ 1000000000
  h0 : 0 ≤ w.hl
  h1 : w.hl ≤ w.hh
  h2 : w.hh ≤ w.room
theorem wl_ok {w : Wl} (h : w.ok = true) : WlOK w := by
  simp only [Wl.ok, inR, inS, Bool.and_eq_true, decide_eq_true_eq] at h
  obtain ⟨⟨⟨⟨⟨⟨-, -⟩, -⟩, ⟨a, b⟩, c⟩, d⟩, ⟨e, f⟩, g⟩, -⟩ := h
  exact ⟨a, b, c, d.1, d.2, e, f, g⟩
theorem land_wl {ws : List Wl} {ls : List Lg} (h : landOK ws ls = true) {k : Nat} (hk : k < ws.length) : WlOK ws[k] := by
  simp only [landOK, Bool.and_eq_true] at h
  exact wl_ok (List.all_eq_true.1 h.1.2 _ (List.getElem_mem hk))
theorem mul_bd {n y : Int} (hn : 0 ≤ n ∧ n ≤ 100001) (hy : 0 ≤ y ∧ y ≤ 10000000) : 0 ≤ n * y ∧ n * y ≤ 1000010000000 := by
  refine ⟨Int.mul_nonneg hn.1 hy.1, ?_⟩
  have := Int.mul_le_mul hn.2 hy.2 hy.1 (by decide)
  simpa using this
structure Br where
  c0 : Int
  c1 : Int
  c2 : Int
  c3 : Int
  c4 : Int
  c5 : Int
  c6 : Int
  c7 : Int
  c8 : Int
  c9 : Int
  c10 : Int
  c11 : Int
  c12 : Int
  c13 : Int
  c14 : Int
  c15 : Int
  c16 : Int
def Br.d (b : Br) : List D := [I b.c0, I b.c1, I b.c2, I b.c3, I b.c4, I b.c5, I b.c6, I b.c7, I b.c8, I b.c9, I b.c10, I b.c11, I b.c12, I b.c13, I b.c14, I b.c15, I b.c16]
structure Cm where
  x0 : Int
  x1 : Int
  x2 : Int
  x3 : Int
  x4 : Int
  x5 : Int
  x6 : Bool
def Cm.d (c : Cm) : List D := [I c.x0, I c.x1, I c.x2, I c.x3, I c.x4, I c.x5, .bool c.x6]
theorem e129 (mx : Int) (ps : List (Int × Int)) (hl : ps.length ≤ 100) : evL FN 129 [I mx, .list (ps.map fun p => [I p.1, I p.2])] = some (.bool (ps.all fun p => inS p.1 p.2 0 mx)) := by
  refine evL_of (F := F129) rfl ?_
  simp [F129, Fn.denV, fits, T.denV, denL, E.den, D.den1, binD]
  rw [iter_all (p := fun p : Int × Int => inS p.1 p.2 0 mx) (t := 0) (u := 1) (xs := ps)]
  · cases ps.all (fun p => inS p.1 p.2 0 mx) <;> simp [denVK, T.denV, E.den]
  · intro i p hi
    obtain ⟨hlt, rfl⟩ := List.getElem?_eq_some_iff.1 hi
    generalize hp : ps[i] = p at *
    simp [hlt, idx_nat hlt, hi, hp, partD, D.cells, binD, D.den1, wrapN (show i < 9223372036854775807 by omega), inS]
    by_cases g1 : p.1 < 0
    · have g1' : ¬ 0 ≤ p.1 := by omega
      simp [g1, g1', outOf, denL, E.den, denVK, T.denV]
    have g1' : 0 ≤ p.1 := by omega
    by_cases g2 : p.2 < p.1
    · have g2' : ¬ p.1 ≤ p.2 := by omega
      simp [g1, g1', g2, g2', outOf, denL, E.den, denVK, T.denV, D.den1, binD, D.cells]
    have g2' : p.1 ≤ p.2 := by omega
    by_cases g3 : mx < p.2
    · have g3' : ¬ p.2 ≤ mx := by omega
      simp [g1, g1', g2, g2', g3, g3', outOf, denL, E.den, denVK, T.denV, D.den1, binD, D.cells]
    have g3' : p.2 ≤ mx := by omega
    simp [g1, g1', g2, g2', g3, g3', outOf, denL, E.den, denVK, T.denV, D.den1, binD, D.cells, wrapN (show i < 9223372036854775807 by omega)]
  · simp [outOf, denL]
def sixOK (b : Br) : Bool := inS b.c2 b.c3 0 100000 && (inS b.c4 b.c5 0 100000 && (inS b.c6 b.c7 0 100000 && (inS b.c8 b.c9 0 100000 && (inS b.c10 b.c11 0 100000 && inS b.c12 b.c13 0 100000))))
def brOK (b : Br) : Bool := decide (1 ≤ b.c0) && (decide (b.c0 ≤ 1000000) && (decide (1 ≤ b.c1) && (decide (b.c1 ≤ 1000000) && (sixOK b && (decide (0 ≤ b.c14) && (decide (b.c14 ≤ 1000) && inS b.c15 b.c16 0 1000000))))))
theorem e111 (b : Br) : evL FN 111 [.node b.d] = some (I (if brOK b then 0 else 10)) := by
  refine evL_of (F := F111) rfl ?_
  have h6 := e129 100000 [(b.c2, b.c3), (b.c4, b.c5), (b.c6, b.c7), (b.c8, b.c9), (b.c10, b.c11), (b.c12, b.c13)] (by simp)
  have h1 := e129 1000000 [(b.c15, b.c16)] (by simp)
  have h6' : ([(b.c2, b.c3), (b.c4, b.c5), (b.c6, b.c7), (b.c8, b.c9), (b.c10, b.c11), (b.c12, b.c13)].all fun p => inS p.1 p.2 0 100000) = sixOK b := by simp [sixOK]
  have h1' : ([(b.c15, b.c16)].all fun p => inS p.1 p.2 0 1000000) = inS b.c15 b.c16 0 1000000 := by simp
  rw [h6'] at h6
  rw [h1'] at h1
  unfold brOK
  simp only [List.map_cons, List.map_nil, I] at h6 h1
  generalize sixOK b = s6 at *
  generalize inS b.c15 b.c16 0 1000000 = s1 at *
  simp [F111, Fn.denV, fits, T.denV, denL, E.den, D.cells, Br.d, D.den1, binD]
  by_cases g1 : b.c0 < 1
  · have g1' : ¬ 1 ≤ b.c0 := by omega
    simp [g1, g1', outOf, denL, E.den, denVK, T.denV]
  have g1' : 1 ≤ b.c0 := by omega
  by_cases g2 : 1000000 < b.c0
  · have g2' : ¬ b.c0 ≤ 1000000 := by omega
    simp [g1, g1', g2, g2', outOf, denL, E.den, denVK, T.denV, D.den1, binD, D.cells]
  have g2' : b.c0 ≤ 1000000 := by omega
  by_cases g3 : b.c1 < 1
  · have g3' : ¬ 1 ≤ b.c1 := by omega
    simp [g1, g1', g2, g2', g3, g3', outOf, denL, E.den, denVK, T.denV, D.den1, binD, D.cells]
  have g3' : 1 ≤ b.c1 := by omega
  by_cases g4 : 1000000 < b.c1
  · have g4' : ¬ b.c1 ≤ 1000000 := by omega
    simp [g1, g1', g2, g2', g3, g3', g4, g4', outOf, denL, E.den, denVK, T.denV, D.den1, binD, D.cells]
  have g4' : b.c1 ≤ 1000000 := by omega
  simp [g1, g1', g2, g2', g3, g3', g4, g4', outOf, denL, E.den, denVK, T.denV, D.den1, binD, unD, D.cells, fillD, h6, D.flat, D.flat0]
  cases s6
  · simp [outOf, denL, E.den, denVK, T.denV]
  by_cases g5 : b.c14 < 0
  · have g5' : ¬ 0 ≤ b.c14 := by omega
    simp [g5, g5', outOf, denL, E.den, denVK, T.denV, D.den1, binD, D.cells]
  have g5' : 0 ≤ b.c14 := by omega
  by_cases g6 : 1000 < b.c14
  · have g6' : ¬ b.c14 ≤ 1000 := by omega
    simp [g5, g5', g6, g6', outOf, denL, E.den, denVK, T.denV, D.den1, binD, D.cells]
  have g6' : b.c14 ≤ 1000 := by omega
  simp [g5, g5', g6, g6', outOf, denL, E.den, denVK, T.denV, D.den1, binD, unD, D.cells, fillD, h1, D.flat, D.flat0]
  cases s1 <;> simp [outOf, denL, E.den, denVK, T.denV]
def cmOK (b : Br) (c : Cm) : Bool := inS c.x0 c.x1 0 b.c0 && (inS c.x2 c.x3 0 b.c1 && inS c.x4 c.x5 0 1000)
def cmE (b : Br) (c : Cm) : Int := if brOK b then (if cmOK b c then 0 else 11) else 10
theorem e112 (b : Br) (c : Cm) : evL FN 112 [.node b.d, .node c.d] = some (I (cmE b c)) := by
  refine evL_of (F := F112) rfl ?_
  have h111 := e111 b
  have h1 := e129 b.c0 [(c.x0, c.x1)] (by simp)
  have h2 := e129 b.c1 [(c.x2, c.x3)] (by simp)
  have h3 := e129 1000 [(c.x4, c.x5)] (by simp)
  simp only [List.map_cons, List.map_nil, List.all_cons, List.all_nil, Bool.and_true, I] at h1 h2 h3
  unfold cmE cmOK
  simp only [Br.d, I] at h111 ⊢
  generalize inS c.x0 c.x1 0 b.c0 = s1 at *
  generalize inS c.x2 c.x3 0 b.c1 = s2 at *
  generalize inS c.x4 c.x5 0 1000 = s3 at *
  generalize brOK b = s0 at *
  cases s0
  · simp at h111
    simp [F112, Fn.denV, fits, T.denV, denL, E.den, D.cells, Cm.d, D.den1, binD, h111]
  simp at h111
  simp [F112, Fn.denV, fits, T.denV, denL, E.den, D.cells, Cm.d, D.den1, binD, unD, fillD, h111, h1, D.flat, D.flat0]
  cases s1
  · simp [outOf, denL, E.den, denVK, T.denV]
  simp [outOf, denL, E.den, denVK, T.denV, D.den1, binD, unD, fillD, D.cells, h2, D.flat, D.flat0]
  cases s2
  · simp [outOf, denL, E.den, denVK, T.denV]
  simp [outOf, denL, E.den, denVK, T.denV, D.den1, binD, unD, fillD, D.cells, h3, D.flat, D.flat0]
  cases s3 <;> simp [outOf, denL, E.den, denVK, T.denV]
def sm (c0 : Int) (f : Cm → Int) (xs : List Cm) : Nat → Int
  | 0 => 0
  | n + 1 => IntKind.i64.wrap (sm c0 f xs n + IntKind.i64.wrap (c0 - ((xs[n]?).map f).getD 0))
theorem sm_bd {c0 : Int} {f : Cm → Int} {xs : List Cm} (h0 : 0 ≤ c0 ∧ c0 ≤ 1000000) (hx : xs.length ≤ 30) (h : ∀ c ∈ xs, 0 ≤ f c ∧ f c ≤ c0) : ∀ n, n ≤ xs.length → 0 ≤ sm c0 f xs n ∧ sm c0 f xs n ≤ 1000000 * n
  | 0, _ => by simp [sm]
  | n + 1, hn => by
    obtain ⟨i1, i2⟩ := sm_bd h0 hx h n (by omega)
    have hc := h _ (List.getElem_mem (show n < xs.length by omega))
    simp only [sm, List.getElem?_eq_getElem (show n < xs.length by omega), Option.map_some, Option.getD_some]
    rw [wI (x := c0 - f xs[n]) (by omega), wI (by omega)]
    omega
def thD (b : Br) (xs : List Cm) : D := match firstN (fun i => decide (((xs[i]?).map (cmE b)).getD 0 = 0)) xs.length 0 with
  | some i => .node [.node [I 0, I 0], I (((xs[i]?).map (cmE b)).getD 0)]
  | none => .node [.node [I (sm b.c0 Cm.x1 xs xs.length), I (sm b.c0 Cm.x0 xs xs.length)], I 0]
/-- What is known of what a herd drinks. -/
theorem th_bd (b : Br) (xs : List Cm) (hx : xs.length ≤ 30) : ∃ x y e : Int, (if brOK b then thD b xs else .node [.node [I 0, I 0], I 10]) = .node [.node [I x, I y], I e] ∧ (e = 0 → 0 ≤ y ∧ y ≤ 30000000) := by
  cases hb : brOK b
  · exact ⟨0, 0, 10, rfl, fun h => by omega⟩
  · simp only [if_true]
    unfold thD
    cases hf : firstN (fun i => decide (((xs[i]?).map (cmE b)).getD 0 = 0)) xs.length 0 with
    | some i =>
      obtain ⟨-, -, g, -⟩ := firstN_some hf
      exact ⟨0, 0, _, rfl, fun h => by simp [h] at g⟩
    | none =>
      refine ⟨_, _, 0, rfl, fun _ => ?_⟩
      have hall := firstN_none.1 hf
      have hc0 : 1 ≤ b.c0 ∧ b.c0 ≤ 1000000 := by
        simp only [brOK, Bool.and_eq_true, decide_eq_true_eq] at hb
        exact ⟨hb.1, hb.2.1⟩
      have := sm_bd (c0 := b.c0) (f := Cm.x0) (xs := xs) (by omega) hx (fun c hc => by
        obtain ⟨j, hj, rfl⟩ := List.getElem_of_mem hc
        have h1 := hall j (by omega) (by omega)
        simp only [List.getElem?_eq_getElem hj, Option.map_some, Option.getD_some, decide_eq_true_eq, cmE, hb, if_true] at h1
        cases h2 : cmOK b xs[j] <;> rw [h2] at h1
        · simp at h1
        · simp only [cmOK, inS, Bool.and_eq_true, decide_eq_true_eq] at h2
          omega) xs.length (Nat.le_refl _)
      omega
end Go.Q
