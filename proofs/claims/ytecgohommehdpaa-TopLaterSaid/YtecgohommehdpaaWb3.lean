/- Way: when one may leave, and can. -/
import Derived.Test.YtecgohommehdpaaWb2
set_option linter.unusedVariables false
set_option linter.unusedSimpArgs false
namespace Go.Q
open Go.V
theorem minC (a b : Int) : (if b < a then b else a) = min a b := by rw [Int.min_def]; split <;> split <;> omega
theorem maxC (a b : Int) : (if b > a then b else a) = max a b := by rw [Int.max_def]; split <;> split <;> omega
theorem maxC' (a b : Int) : (if a < b then b else a) = max a b := by rw [Int.max_def]; split <;> split <;> omega
/-- The first gate of a kind: what it gives. -/
def gate (cond : Gt → Bool) (gs : List Gt) (n : Nat) : Option Nat := firstN (fun i => !(gs[i]?).any cond) n 0
def firstG (cond : Gt → Bool) (val : Gt → Int) (gs : List Gt) (n : Nat) : Int := match gate cond gs n with
  | some i => (gs[i]?).elim 0 val
  | none => 100001
def condM (day d : Int) (g : Gt) : Bool := decide (IntKind.i64.wrap (IntKind.i64.wrap (max day g.ol + d) - 1) ≤ g.sh)
def condC (day d : Int) (g : Gt) : Bool := decide (IntKind.i64.wrap (IntKind.i64.wrap (max day g.oh + d) - 1) ≤ g.sl)
def valM (day : Int) (g : Gt) : Int := max day g.ol
def valC (day : Int) (g : Gt) : Int := max day g.oh
theorem e75 (l : Lg) (day pl ph : Int) (h1 : pl ≠ 0) (h2 : ph ≠ 0) (hl : l.gs.length ≤ 9223372036854775807) : evL FN 75 [.node l.d, I day, .node [I pl, I ph]] = some (I (firstG (condM day (dvd' l.lo ph)) (valM day) l.gs l.gs.length)) := by
  refine evL_of (F := F75) rfl ?_
  have h71 := e71 l pl ph h1 h2
  simp only [Lg.d, gts, I] at h71
  simp [F75, Fn.denV, fits, T.denV, denL, E.den, D.cells, Lg.d, gts]
  rw [iter_nat l.gs.length (fun i => !(l.gs[i]?).any (condM day (dvd' l.lo ph))) (fun i => [I i]) 0 1 (fun i => [I ((l.gs[i]?).elim 0 (valM day))]) [] (by simp)]
  · unfold firstG gate
    cases firstN (fun i => !(l.gs[i]?).any (condM day (dvd' l.lo ph))) l.gs.length 0 <;> simp [denVK, T.denV, E.den]
  · intro i hi _
    simp [D.den1, binD, hi, idx_nat hi, Gt.d, partD, mxLD, mxD, maxC, maxC', h71, D.cells, E.den, denL, T.denV, wrapN (show i < 9223372036854775807 by omega)]
    by_cases hc : IntKind.i64.wrap (IntKind.i64.wrap (max day l.gs[i].ol + dvd' l.lo ph) - 1) ≤ l.gs[i].sh <;> simp [condM, valM, hc, outOf, denL, E.den]
  · intro _
    simp [D.den1, binD, outOf, denL]
theorem e76 (l : Lg) (day pl ph : Int) (h1 : pl ≠ 0) (h2 : ph ≠ 0) (hl : l.gs.length ≤ 9223372036854775807) : evL FN 76 [.node l.d, I day, .node [I pl, I ph]] = some (I (firstG (condC day (dvd' l.hi pl)) (valC day) l.gs l.gs.length)) := by
  refine evL_of (F := F76) rfl ?_
  have h71 := e71 l pl ph h1 h2
  simp only [Lg.d, gts, I] at h71
  simp [F76, Fn.denV, fits, T.denV, denL, E.den, D.cells, Lg.d, gts]
  rw [iter_nat l.gs.length (fun i => !(l.gs[i]?).any (condC day (dvd' l.hi pl))) (fun i => [I i]) 0 1 (fun i => [I ((l.gs[i]?).elim 0 (valC day))]) [] (by simp)]
  · unfold firstG gate
    cases firstN (fun i => !(l.gs[i]?).any (condC day (dvd' l.hi pl))) l.gs.length 0 <;> simp [denVK, T.denV, E.den]
  · intro i hi _
    simp [D.den1, binD, hi, idx_nat hi, Gt.d, partD, mxLD, mxD, maxC, maxC', h71, D.cells, E.den, denL, T.denV, wrapN (show i < 9223372036854775807 by omega)]
    by_cases hc : IntKind.i64.wrap (IntKind.i64.wrap (max day l.gs[i].oh + dvd' l.hi pl) - 1) ≤ l.gs[i].sl <;> simp [condC, valC, hc, outOf, denL, E.den]
  · intro _
    simp [D.den1, binD, outOf, denL]
theorem e116 (a b : Int) : evL FN 116 [.list [[I a], [I b]]] = some (I (min (min 100001 a) b)) := by
  refine evL_of (F := F116) rfl ?_
  have w1 : IntKind.i64.wrap 1 = 1 := by decide
  have w2 : IntKind.i64.wrap 2 = 2 := by decide
  simp [F116, Fn.denV, fits, T.denV, denL, E.den, D.den1]
  rw [iterL_eq]
  simp [D.den1, binD, D.idx, partD, mxLD, mxD, minC, outOf, denL, E.den, w1, w2]
  rw [iterL_eq]
  simp [D.den1, binD, D.idx, partD, mxLD, mxD, minC, outOf, denL, E.den, w1, w2]
  rw [iterL_eq]
  simp [D.den1, binD, D.idx, partD, mxLD, mxD, minC, outOf, denL, E.den, denVK, T.denV, w1, w2]
theorem firstN_succ {p : Nat → Bool} : ∀ {n i : Nat}, firstN p (n + 1) i = match firstN p n i with
    | some j => some j
    | none => if p (i + n) then none else some (i + n)
  | 0, i => by simp [firstN]
  | n + 1, i => by
    have ih := firstN_succ (p := p) (n := n) (i := i + 1)
    have e1 : firstN p (n + 1 + 1) i = if p i then firstN p (n + 1) (i + 1) else some i := rfl
    have e2 : firstN p (n + 1) i = if p i then firstN p n (i + 1) else some i := rfl
    rw [e1, e2, ih, show i + 1 + n = i + (n + 1) by omega]
    cases p i <;> simp
/-- What one has behind one gate more. -/
theorem firstG_succ (cond : Gt → Bool) (val : Gt → Int) (gs : List Gt) (n : Nat) (hn : n < gs.length)
    (hv : cond gs[n] = true → val gs[n] ≤ 100001) (hm : ∀ j, j < n → (h : j < gs.length) → cond gs[j] = true → cond gs[n] = true → val gs[j] ≤ val gs[n]) (hle : ∀ j, j < n → (h : j < gs.length) → cond gs[j] = true → val gs[j] ≤ 100001) :
    firstG cond val gs (n + 1) = if cond gs[n] then min (min 100001 (firstG cond val gs n)) (val gs[n]) else firstG cond val gs n := by
  unfold firstG gate
  rw [firstN_succ]
  cases h : firstN (fun i => !(gs[i]?).any cond) n 0 with
  | some j =>
    obtain ⟨-, g2, g3, -⟩ := firstN_some h
    have hj : j < n := by omega
    have hjl : j < gs.length := by omega
    simp only [List.getElem?_eq_getElem hjl, Option.any_some, Bool.not_eq_false'] at g3
    simp only [List.getElem?_eq_getElem hjl, Option.elim_some]
    cases hc : cond gs[n]
    · simp
    · have h1 := hm j hj hjl g3 hc
      have h2 := hle j hj hjl g3
      simp only [if_true]
      omega
  | none =>
    simp only [Nat.zero_add, List.getElem?_eq_getElem hn, Option.any_some]
    cases hc : cond gs[n]
    · simp
    · have h1 := hv hc
      simp [List.getElem?_eq_getElem hn]
      omega
theorem firstG_zero (cond : Gt → Bool) (val : Gt → Int) (gs : List Gt) : firstG cond val gs 0 = 100001 := rfl
end Go.Q
