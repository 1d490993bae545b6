/- Guide: places in areas; numbers. -/
import Derived.Test.YtpdnchpjolkcfaaKb5
import Derived.Test.YtpdnchpjolkcfaaKl0
set_option linter.unusedVariables false
set_option linter.unusedSimpArgs false
set_option maxRecDepth 100000
namespace Go.Q
open Go.V
/-- The place of a caravan. -/
abbrev U32 (n : Int) : D := .int .u32 n
def pt (x y : Int) : Cr := ⟨x, y, 1⟩
def inP (hs : List Hf) (x y : Int) : Bool := hs.all fun h => decide (h.a * x + h.b * y ≤ h.c)
theorem inP_iff {hs : List Hf} {x y : Int} : inP hs x y = true ↔ (pt x y).inA hs := by
  simp [inP, Cr.inA, pt]
theorem e25 (hs : List Hf) (x y : Int) (hh : ∀ h ∈ hs, h.In) (hl : hs.length ≤ 40) (hx : -20000000000 ≤ x ∧ x ≤ 20000000000) (hy : -20000000000 ≤ y ∧ y ≤ 20000000000) : evL FN 25 [.node [hfs hs], I x, I y] = some (.bool (inP hs x y)) := by
  refine evL_of (F := F25) rfl ?_
  unfold inP
  simp [F25, Fn.denV, fits, T.denV, denVK, denL, E.den, D.cells, hfs, D.den1, binD, -List.all_eq_true]
  rw [iter_all (p := fun h : Hf => decide (h.a * x + h.b * y ≤ h.c)) (t := 0) (u := 1) (xs := hs)]
  · cases hs.all fun h : Hf => decide (h.a * x + h.b * y ≤ h.c) <;> simp [denVK, T.denV, E.den]
  · intro i h hi
    obtain ⟨hlt, rfl⟩ := List.getElem?_eq_some_iff.1 hi
    have hI := hh _ (List.getElem_mem hlt)
    have hlt' : (i : Int) < hs.length := by omega
    have m1 := mulB hI.a hx
    have m2 := mulB hI.b hy
    have w1 := wrapI (x := hs[i].a * x) (by omega)
    have w2 := wrapI (x := hs[i].b * y) (by omega)
    have w3 := wrapI (x := hs[i].a * x + hs[i].b * y) (by omega)
    by_cases c : hs[i].a * x + hs[i].b * y ≤ hs[i].c
    · have c' : ¬ hs[i].c < hs[i].a * x + hs[i].b * y := by omega
      simp [hlt, hlt', idx_nat hlt, hi, Hf.d, partD, D.cells, w1, w2, w3, c, c', outOf, denL, E.den, wrapN (show i < 9223372036854775807 by omega)]
    · have c' : hs[i].c < hs[i].a * x + hs[i].b * y := by omega
      simp [hlt, hlt', idx_nat hlt, hi, Hf.d, partD, D.cells, w1, w2, w3, c, c', outOf, denL, E.den]
  · simp [outOf, denL]
/-- What is said to be near is, and what is said not to be is not. -/
theorem kn_true {hs : List Hf} {x y px py f : Int} (hin : ∀ h ∈ hs, h.In) (hS : Sided hs) (hp : (pt x y).inA hs) :
    (kn hs (nr px py f) = 2 → max (px - x) (max (x - px) (max (py - y) (y - py))) ≤ f) ∧ (kn hs (nr px py f) = 0 → ¬ max (px - x) (max (x - px) (max (py - y) (y - py))) ≤ f) := by
  have hpl : hasPl hs = true := (hasPl_sided hS).2 ⟨_, hp⟩
  constructor
  · intro h
    rw [kn_two hS hpl] at h
    cases e : crnR hs hs.length with
    | nil => rw [crn_nil.1 e] at hpl; cases hpl
    | cons c cs =>
      rw [e] at h
      have hpp : ∀ d ∈ c :: cs, 0 < d.p := fun d hd => (crn_inA (e ▸ hd)).1
      have hb := (bnd_near hpp).2 h
      have hi := in_bounds hS e hp
      simp only [pt, Int.mul_one] at hi
      omega
  · intro h hn
    rw [kn_zero] at h
    have : hasPl (hs ++ nr px py f) = true := by
      refine (hasPl_sided (hS.mono fun x hx => by simp [hx])).2 ⟨pt x y, inA_append hp ?_⟩
      rw [nr_all]
      simp only [pt, Int.mul_one, Bool.and_eq_true, decide_eq_true_eq]
      omega
    rw [h] at this; cases this
/-- Words: numbers below 2^32. -/
structure Wd where
  n : Int
  h0 : 0 ≤ n
  h1 : n ≤ 4294967295
def wds (ws : List Wd) : D := .list (ws.map fun w => [U32 w.n])
def atS (ws : List Wd) (i : Nat) : Wd := if ws.length = 0 then ⟨0, by omega, by omega⟩ else ws.getD (i % ws.length) ⟨0, by omega, by omega⟩
theorem e23 (ws : List Wd) (i : Nat) : evL FN 23 [wds ws, I i] = some (U32 (atS ws i).n) := by
  refine evL_of (F := F23) rfl ?_
  unfold atS
  by_cases h : ws.length = 0
  · have h' : ws = [] := List.eq_nil_of_length_eq_zero h
    subst h'
    simp [F23, Fn.denV, fits, T.denV, denVK, denL, E.den, D.cells, D.den1, binD, wds]
  · have h0 : ¬ ws = [] := fun e => h (by rw [e]; rfl)
    have hz : ¬ (ws.length : Int) = 0 := by omega
    have hm : ((i : Int).tmod ws.length) = ((i % ws.length : Nat) : Int) := rfl
    have hlt : i % ws.length < ws.length := Nat.mod_lt _ (by omega)
    have hidx := idx_nat hlt
    simp only [I] at hidx
    simp [h, h0, hz, hm, F23, Fn.denV, fits, T.denV, denVK, denL, E.den, D.cells, D.den1, binD, wds, partD]
    have he : (i : Int) % (ws.length : Int) = ((i % ws.length : Nat) : Int) := by simp
    rw [he, hidx]
    simp [hlt, E.den]
theorem iter_upto {f : List D → Option (Option Nat × List D)} {P : Nat → List D → Prop} {n : Nat} {R : Nat × List D → Prop}
    (hstep : ∀ i ds, i < n → P i ds → (∃ t v, f ds = some (some t, v) ∧ R (t, v)) ∨ ∃ ds', f ds = some (none, ds') ∧ P (i + 1) ds')
    (hend : ∀ ds, P n ds → ∃ t v, f ds = some (some t, v) ∧ R (t, v)) : ∀ (k i : Nat) (ds : List D), i + k = n → P i ds → ∃ r, iterL f ds = some r ∧ R r
  | 0, i, ds, hk, hp => by
    obtain rfl : i = n := by omega
    obtain ⟨t, v, e, h⟩ := hend ds hp
    exact ⟨(t, v), by rw [iterL_eq, e], h⟩
  | k + 1, i, ds, hk, hp => by
    rcases hstep i ds (by omega) hp with ⟨t, v, e, h⟩ | ⟨ds', e, h⟩
    · exact ⟨(t, v), by rw [iterL_eq, e], h⟩
    · obtain ⟨r, hr, hR⟩ := iter_upto hstep hend k (i + 1) ds' (by omega) h
      exact ⟨r, by rw [iterL_eq, e]; exact hr, hR⟩
end Go.Q
