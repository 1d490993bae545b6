/- Load: packs; what is valid -/
import Derived.Test.YtiailejekbnkgaaGreatLzd
import Derived.Test.YtiailejekbnkgaaGreatJL
set_option linter.unusedVariables false
set_option linter.unusedSimpArgs false
set_option maxRecDepth 100000
namespace Go.Q
open Go.V
abbrev U8 (n : Int) : D := .int .u8 n
abbrev U32 (n : Int) : D := .int .u32 n
theorem wrapI {x : Int} (h : -9223372036854775808 ≤ x ∧ x ≤ 9223372036854775807) : IntKind.i64.wrap x = x := IntWalk.i64_in _ (by omega)
theorem mulB {a b A B : Int} (ha : 0 ≤ a ∧ a ≤ A) (hb : 0 ≤ b ∧ b ≤ B) : 0 ≤ a * b ∧ a * b ≤ A * B := ⟨Int.mul_nonneg ha.1 hb.1, Int.mul_le_mul ha.2 hb.2 hb.1 (by omega)⟩
def inR (n lo hi : Int) : Bool := decide (lo ≤ n) && decide (n ≤ hi)
theorem inR_iff {n lo hi : Int} : inR n lo hi = true ↔ lo ≤ n ∧ n ≤ hi := by simp [inR]
theorem e51 (n lo hi : Int) : evL FN 51 [I n, I lo, I hi] = some (.bool (inR n lo hi)) := by
  refine evL_of (F := F51) rfl ?_
  by_cases h : lo ≤ n <;> simp [inR, F51, Fn.denV, fits, T.denV, denVK, denL, E.den, D.den1, binD, outOf, h]
theorem e40 (n lo hi : Int) : evL FN 40 [I n, I lo, I hi] = some (.bool (inR n lo hi)) := by
  refine evL_of (F := F40) rfl ?_
  by_cases h : lo ≤ n <;> simp [inR, F40, Fn.denV, fits, T.denV, denVK, denL, E.den, D.den1, binD, outOf, h]
def inS (lo hi a b : Int) : Bool := decide (a ≤ lo) && decide (lo ≤ hi) && decide (hi ≤ b)
theorem inS_iff {lo hi a b : Int} : inS lo hi a b = true ↔ a ≤ lo ∧ lo ≤ hi ∧ hi ≤ b := by simp [inS, and_assoc]
theorem e99 (lo hi a b : Int) : evL FN 99 [.node [I lo, I hi], I a, I b] = some (.bool (inS lo hi a b)) := by
  refine evL_of (F := F99) rfl ?_
  by_cases h : a ≤ lo <;> by_cases h' : lo ≤ hi <;> simp [inS, F99, Fn.denV, fits, T.denV, denVK, denL, E.den, D.cells, D.den1, binD, outOf, h, h']
theorem e39 (lo hi a b : Int) : evL FN 39 [.node [I lo, I hi], I a, I b] = some (.bool (inS lo hi a b)) := by
  refine evL_of (F := F39) rfl ?_
  by_cases h : a ≤ lo <;> by_cases h' : lo ≤ hi <;> simp [inS, F39, Fn.denV, fits, T.denV, denVK, denL, E.den, D.cells, D.den1, binD, outOf, h, h']
/-- A pack. -/
structure Pk where
  kd : Int
  ml : Int
  mh : Int
  hl : Int
  hh : Int
  cl : Int
  ch : Int
  kl : Int
  kh : Int
  hurt : Int
  days : Int
  deriving DecidableEq
def Pk.d (p : Pk) : List D := [U8 p.kd, I p.ml, I p.mh, I p.hl, I p.hh, I p.cl, I p.ch, I p.kl, I p.kh, I p.hurt, I p.days]
def z2 (a b : Int) : Bool := a == 0 && b == 0
theorem z2_iff {a b : Int} : z2 a b = true ↔ a = 0 ∧ b = 0 := by simp [z2]
theorem eq2 (a b : Int) : eqDL [false, false] [I a, I b] [I 0, I 0] = some (z2 a b) := by
  cases h : (a == 0) <;> cases h' : (b == 0) <;> simp [eqDL, eqD1, z2, h, h']
def Pk.own (p : Pk) : Bool := if p.kd = 1 then inS p.hl p.hh 1 100000 && inS p.cl p.ch 0 1000 && z2 p.kl p.kh
  else if p.kd = 2 then z2 p.hl p.hh && z2 p.cl p.ch && z2 p.kl p.kh
  else decide (p.kd = 3) && z2 p.hl p.hh && z2 p.cl p.ch && inS p.kl p.kh 0 1000000
def Pk.ok (p : Pk) : Bool := inS p.ml p.mh 0 1000000 && inR p.hurt 0 6000000 && inR p.days 0 100000 && p.own
theorem e10 (p : Pk) : evL FN 10 [.node p.d] = some (.bool p.ok) := by
  refine evL_of (F := F10) rfl ?_
  have h1 := e39 p.ml p.mh 0 1000000
  have h2 := e40 p.hurt 0 6000000
  have h3 := e40 p.days 0 100000
  have h4 := e39 p.hl p.hh 1 100000
  have h5 := e39 p.cl p.ch 0 1000
  have h6 := e39 p.kl p.kh 0 1000000
  have q1 := eq2 p.hl p.hh
  have q2 := eq2 p.cl p.ch
  have q3 := eq2 p.kl p.kh
  unfold Pk.ok Pk.own
  simp only [Pk.d, I, U8] at h1 h2 h3 h4 h5 h6 q1 q2 q3 ⊢
  generalize inS p.ml p.mh 0 1000000 = b1 at h1 ⊢
  generalize inR p.hurt 0 6000000 = b2 at h2 ⊢
  generalize inR p.days 0 100000 = b3 at h3 ⊢
  generalize inS p.hl p.hh 1 100000 = b4 at h4 ⊢
  generalize inS p.cl p.ch 0 1000 = b5 at h5 ⊢
  generalize inS p.kl p.kh 0 1000000 = b6 at h6 ⊢
  generalize z2 p.hl p.hh = c1 at q1 ⊢
  generalize z2 p.cl p.ch = c2 at q2 ⊢
  generalize z2 p.kl p.kh = c3 at q3 ⊢
  by_cases k1 : p.kd = 1
  · cases b1 <;> cases b2 <;> cases b3 <;> cases b4 <;> cases b5 <;> simp [F10, Fn.denV, fits, T.denV, denVK, denL, E.den, D.cells, D.den1, unD, binD, outOf, h1, h2, h3, h4, h5, q3, k1]
  · by_cases k2 : p.kd = 2
    · cases b1 <;> cases b2 <;> cases b3 <;> cases c1 <;> cases c2 <;> simp [F10, Fn.denV, fits, T.denV, denVK, denL, E.den, D.cells, D.den1, unD, binD, outOf, h1, h2, h3, q1, q2, q3, k2]
    · by_cases k3 : p.kd = 3
      · cases b1 <;> cases b2 <;> cases b3 <;> cases c1 <;> cases c2 <;> simp [F10, Fn.denV, fits, T.denV, denVK, denL, E.den, D.cells, D.den1, unD, binD, outOf, h1, h2, h3, q1, q2, h6, k3]
      · cases b1 <;> cases b2 <;> cases b3 <;> simp [F10, Fn.denV, fits, T.denV, denVK, denL, E.den, D.cells, D.den1, unD, binD, outOf, h1, h2, h3, k1, k2, k3]
theorem e141 (p : Pk) : evL FN 141 [.node p.d] = some (.bool (inS p.hl p.hh 1 100000 && inS p.cl p.ch 0 1000 && z2 p.kl p.kh)) := by
  refine evL_of (F := F141) rfl ?_
  have h4 := e99 p.hl p.hh 1 100000
  have h5 := e99 p.cl p.ch 0 1000
  have q3 := eq2 p.kl p.kh
  simp only [Pk.d, I, U8] at h4 h5 q3 ⊢
  generalize inS p.hl p.hh 1 100000 = b4 at h4 ⊢
  generalize inS p.cl p.ch 0 1000 = b5 at h5 ⊢
  cases b4 <;> cases b5 <;> simp [F141, Fn.denV, fits, T.denV, denVK, denL, E.den, D.cells, D.den1, unD, binD, outOf, h4, h5, q3]
theorem e143 (p : Pk) : evL FN 143 [.node p.d] = some (.bool (z2 p.hl p.hh && z2 p.cl p.ch && z2 p.kl p.kh)) := by
  refine evL_of (F := F143) rfl ?_
  have q1 := eq2 p.hl p.hh
  have q2 := eq2 p.cl p.ch
  have q3 := eq2 p.kl p.kh
  simp only [Pk.d, I, U8] at q1 q2 q3 ⊢
  generalize z2 p.hl p.hh = c1 at q1 ⊢
  generalize z2 p.cl p.ch = c2 at q2 ⊢
  cases c1 <;> cases c2 <;> simp [F143, Fn.denV, fits, T.denV, denVK, denL, E.den, D.cells, D.den1, unD, binD, outOf, q1, q2, q3]
theorem e145 (p : Pk) : evL FN 145 [.node p.d] = some (.bool (z2 p.hl p.hh && z2 p.cl p.ch && inS p.kl p.kh 0 1000000)) := by
  refine evL_of (F := F145) rfl ?_
  have q1 := eq2 p.hl p.hh
  have q2 := eq2 p.cl p.ch
  have h6 := e99 p.kl p.kh 0 1000000
  simp only [Pk.d, I, U8] at q1 q2 h6 ⊢
  generalize z2 p.hl p.hh = c1 at q1 ⊢
  generalize z2 p.cl p.ch = c2 at q2 ⊢
  cases c1 <;> cases c2 <;> simp [F145, Fn.denV, fits, T.denV, denVK, denL, E.den, D.cells, D.den1, unD, binD, outOf, q1, q2, h6]
theorem e98 : evL FN 98 [] = some (.node []) := by
  refine evL_of (F := F98) rfl ?_
  simp [F98, Fn.denV, fits, T.denV, E.den]
theorem e41 (p : Pk) : evL FN 41 [.node p.d] = some (.bool p.ok) := by
  refine evL_of (F := F41) rfl ?_
  have h0 := e98
  have h1 := e99 p.ml p.mh 0 1000000
  have h2 := e51 p.hurt 0 6000000
  have h3 := e51 p.days 0 100000
  have h4 := e141 p
  have h5 := e143 p
  have h6 := e145 p
  unfold Pk.ok Pk.own
  simp only [Pk.d, I, U8] at h0 h1 h2 h3 h4 h5 h6 ⊢
  generalize inS p.ml p.mh 0 1000000 = b1 at h1 ⊢
  generalize inR p.hurt 0 6000000 = b2 at h2 ⊢
  generalize inR p.days 0 100000 = b3 at h3 ⊢
  by_cases k1 : p.kd = 1
  · generalize (inS p.hl p.hh 1 100000 && inS p.cl p.ch 0 1000 && z2 p.kl p.kh) = w at h4 ⊢
    cases w <;> cases b1 <;> cases b2 <;> cases b3 <;> simp_all [F41, Fn.denV, fits, T.denV, denVK, denL, E.den, D.cells, D.den1, unD, binD, outOf]
  · by_cases k2 : p.kd = 2
    · generalize (z2 p.hl p.hh && z2 p.cl p.ch && z2 p.kl p.kh) = w at h5 ⊢
      cases w <;> cases b1 <;> cases b2 <;> cases b3 <;> simp_all [F41, Fn.denV, fits, T.denV, denVK, denL, E.den, D.cells, D.den1, unD, binD, outOf]
    · by_cases k3 : p.kd = 3
      · simp only [k3, decide_true, Bool.true_and]
        generalize (z2 p.hl p.hh && z2 p.cl p.ch && inS p.kl p.kh 0 1000000) = w at h6 ⊢
        cases w <;> cases b1 <;> cases b2 <;> cases b3 <;> simp_all [F41, Fn.denV, fits, T.denV, denVK, denL, E.den, D.cells, D.den1, unD, binD, outOf]
      · simp [F41, Fn.denV, fits, T.denV, denVK, denL, E.den, D.cells, D.den1, unD, binD, outOf, h0, k1, k2, k3]
end Go.Q
