/- Guide: one look at how near one is, on the way. -/
import Derived.Test.YtcgeghpmnnhcpaaGf0
set_option linter.unusedVariables false
set_option linter.unusedSimpArgs false
namespace Go.Q
open Go.V
theorem bad13 {d0 d1 d2 d3 d4 d5 d6 d7 d8 d9 d10 d12 d13 d15 d16 d17 d18 d19 d20 d22 d23 d24 d25 d26 d27 d28 d29 d30 d31 d32 d33 d34 d35 d36 d37 d38 : D} {r0 r1 r2 : Int} {inn near : Bool} {i : Nat}
    (hr : inn = true → r2 = 0 → (near = true → 0 ≤ r0 ∧ r0 ≤ i) ∧ (r1 = i → near = true)) :
    outOf outsB13 (tB13.denV (evL FN) [d0, d1, d2, d3, d4, d5, d6, d7, d8, d9, d10, .node [I r0, I r1, I r2], d12, d13, .bool inn, d15, d16, d17, d18, d19, d20, I i, d22, d23, d24, d25, d26, d27, d28, d29, d30, d31, d32, d33, d34, d35, d36, d37, d38, .bool near]) = some (0, [.bool false]) := by
  cases inn
  · simp [tB13, outsB13, T.denV, denL, E.den, outOf]
  by_cases h2 : r2 = 0
  · obtain ⟨h3, h4⟩ := hr rfl h2
    subst h2
    cases near
    · have h5 : ¬ (i : Int) = r1 := fun h => by cases h4 h.symm
      simp [tB13, outsB13, T.denV, denL, E.den, D.cells, D.den1, binD, unD, outOf, h5]
    · obtain ⟨h5, h6⟩ := h3 rfl
      have h7 : ¬ r0 < 0 := by omega
      have h8 : ¬ (i : Int) < r0 := by omega
      by_cases h9 : (i : Int) = r1
      · have h10 : ¬ r1 < r0 := by omega
        simp [tB13, outsB13, T.denV, denL, E.den, D.cells, D.den1, binD, unD, outOf, h7, h10, h9]
      · simp [tB13, outsB13, T.denV, denL, E.den, D.cells, D.den1, binD, unD, outOf, h7, h8, h9]
  · cases near
    · by_cases h5 : (i : Int) = r1 <;> simp [tB13, outsB13, T.denV, denL, E.den, D.cells, D.den1, binD, unD, outOf, h2, h5]
    · by_cases h5 : r0 < 0
      · simp [tB13, outsB13, T.denV, denL, E.den, D.cells, D.den1, binD, unD, outOf, h2, h5]
      · by_cases h6 : (i : Int) < r0
        · simp [tB13, outsB13, T.denV, denL, E.den, D.cells, D.den1, binD, unD, outOf, h2, h5, h6]
        · by_cases h7 : (i : Int) = r1
          · have h10 : ¬ r1 < r0 := by omega
            simp [tB13, outsB13, T.denV, denL, E.den, D.cells, D.den1, binD, unD, outOf, h2, h5, h7, h10]
          · simp [tB13, outsB13, T.denV, denL, E.den, D.cells, D.den1, binD, unD, outOf, h2, h5, h6, h7]
def mayS (k : Int) (i : Nat) (may : Int) : Int := if may < 0 ∧ k ≠ 0 then i else may
def sureS (k : Int) (i : Nat) (sure : Int) : Int := if sure < 0 ∧ k = 2 then i else sure
def farM (x y px py : Int) : Int := max (IntKind.i64.wrap (px - x)) (max (IntKind.i64.wrap (x - px)) (max (IntKind.i64.wrap (py - y)) (IntKind.i64.wrap (y - py))))
theorem outOf_leaf {α : Type} {outs : List (List E × α)} {j : Nat} {ρ : List D} : outOf outs (some (j, ρ)) = (outs[j]?).map (fun p => (p.2, denL ρ p.1)) := rfl
theorem near13 {d0 d1 d5 d6 d7 d9 d10 d12 d13 d15 d16 d17 d18 d22 d23 d24 : D} {hs : List Hf} {x y far px py r0 r1 r2 may sure : Int} {inn : Bool} {i : Nat} (ho : okA hs = true) (hpl : hasPl hs = true) (ha : askOK x y far = true)
    (hr : inn = true → r2 = 0 → (farM x y px py ≤ far → 0 ≤ r0 ∧ r0 ≤ i) ∧ (r1 = i → farM x y px py ≤ far)) :
    outOf outs13 (tN13.denV (evL FN) [d0, d1, I x, I y, I far, d5, d6, d7, .bool true, d9, d10, .node [I r0, I r1, I r2], d12, d13, .bool inn, d15, d16, d17, d18, I may, I sure, I i, d22, d23, d24, I px, I py, hfs hs]) =
      some (1, [I px, I py, I (mayS (kn hs (nr x y far)) i may), I (sureS (kn hs (nr x y far)) i sure), hfs hs]) := by
  obtain ⟨hin, hlen⟩ := okA_in ho
  have h20 := e20 hs x y far (by omega)
  rw [nearS_of ho ha hpl] at h20
  have s1 := shal_node_hfs (n := 3) (hs := hs)
  have kc := kn_cases hs (nr x y far)
  have n2 : ∀ a b : Int, mxD true (.int .i64 a) (.int .i64 b) = some (.int .i64 (max a b)) := maxD
  generalize kn hs (nr x y far) = k at *
  have hb := fun d17 d18 d22 d23 d24 d25 d26 d27 d28 d29 d30 d31 d32 d33 d34 d35 d36 d37 d38 => bad13 (d0 := d0) (d1 := d1) (d2 := I x) (d3 := I y) (d4 := I far) (d5 := d5) (d6 := d6) (d7 := d7) (d8 := .bool true) (d9 := d9) (d10 := d10) (d12 := d12) (d13 := d13) (d15 := d15) (d16 := d16) (d17 := d17) (d18 := d18) (d19 := I may) (d20 := I sure) (d22 := d22) (d23 := d23) (d24 := d24) (d25 := d25) (d26 := d26) (d27 := d27) (d28 := d28) (d29 := d29) (d30 := d30) (d31 := d31) (d32 := d32) (d33 := d33) (d34 := d34) (d35 := d35) (d36 := d36) (d37 := d37) (d38 := d38) (r0 := r0) (r1 := r1) (r2 := r2) (inn := inn) (near := decide (max (IntKind.i64.wrap (px - x)) (max (IntKind.i64.wrap (x - px)) (max (IntKind.i64.wrap (py - y)) (IntKind.i64.wrap (y - py)))) ≤ far)) (i := i) (fun h1 h2 => by
    obtain ⟨h3, h4⟩ := hr h1 h2
    exact ⟨fun h => h3 (of_decide_eq_true h), fun h => decide_eq_true (h4 h)⟩)
  simp only [I, U8, hfs] at h20 s1 hb ⊢
  rcases kc with rfl | rfl | rfl <;> by_cases m1 : may < 0 <;> by_cases m2 : sure < 0 <;>
    simp [mayS, sureS, tN13, outs13, T.denV, denVK, denL, E.den, D.cells, D.den1, binD, unD, mxLD, n2, outOf_leaf, s1, h20, D.flat, D.flat0, m1, m2, hb]
end Go.Q
