/- Guide: bounds and beginnings. -/
import Derived.Test.YtcgeghpmnnhcpaaGc4
set_option linter.unusedVariables false
set_option linter.unusedSimpArgs false
namespace Go.Q
open Go.V
/-- The area of two spans. -/
def startS (a b c d : Int) : List Hf × Int := if inS a b (-10000000) 10000000 && inS c d (-10000000) 10000000 then (sides a b c d, 0) else ([], 2)
theorem inS_in {a b lo hi : Int} (h : inS a b lo hi = true) : lo ≤ a ∧ a ≤ b ∧ b ≤ hi := by
  simp [inS] at h
  omega
theorem e24 (a b c d : Int) : evL FN 24 [.node [I a, I b], .node [I c, I d]] = some (.node [.node [hfs (startS a b c d).1], I (startS a b c d).2]) := by
  refine evL_of (F := F24) rfl ?_
  unfold startS
  cases e1 : inS a b (-10000000) 10000000
  · simp [F24, Fn.denV, fits, T.denV, denVK, denL, E.den, D.cells, D.den1, binD, unD, outOf, e63, e1, hfs]
  cases e2 : inS c d (-10000000) 10000000
  · simp [F24, Fn.denV, fits, T.denV, denVK, denL, E.den, D.cells, D.den1, binD, unD, outOf, e63, e1, e2, hfs]
  have h1 := inS_in e1
  have h2 := inS_in e2
  have h64 := e64 (a := a) (b := b) (c := c) (d := d) (by omega) (by omega) (by omega) (by omega)
  simp [F24, Fn.denV, fits, T.denV, denVK, denL, E.den, D.cells, D.den1, binD, unD, outOf, e63, e1, e2, h64]
theorem e31 (a b c d : Int) : evL FN 31 [.node [I a, I b], .node [I c, I d]] = some (.node [.node [hfs (startS a b c d).1], I (startS a b c d).2]) := by
  refine evL_of (F := F31) rfl ?_
  unfold startS
  cases e1 : inS a b (-10000000) 10000000
  · simp [F31, Fn.denV, fits, T.denV, denVK, denL, E.den, D.cells, D.den1, binD, unD, outOf, e73, e1, hfs]
  cases e2 : inS c d (-10000000) 10000000
  · simp [F31, Fn.denV, fits, T.denV, denVK, denL, E.den, D.cells, D.den1, binD, unD, outOf, e73, e1, e2, hfs]
  have h1 := inS_in e1
  have h2 := inS_in e2
  have w1 := wrapI (x := -a) (by omega)
  have w2 := wrapI (x := -c) (by omega)
  simp [F31, Fn.denV, fits, T.denV, denVK, denL, E.den, D.cells, D.den1, binD, unD, outOf, e73, e1, e2, w1, w2, fillD, hfs, sides, Hf.d]
/-! The least and the greatest of the corners -/
def lo2 (f g : Cr → Int) (c : Cr) (cs : List Cr) : Int := cs.foldl (fun m c => min m (f c)) (f c)
def hi2 (f g : Cr → Int) (c : Cr) (cs : List Cr) : Int := cs.foldl (fun m c => max m (g c)) (g c)
def fX (c : Cr) : Int := c.x / c.p
def gX (c : Cr) : Int := -(-c.x / c.p)
def fY (c : Cr) : Int := c.y / c.p
def gY (c : Cr) : Int := -(-c.y / c.p)
theorem fg_le {n p : Int} (hp : 0 < p) : n / p ≤ -(-n / p) := by
  have h1 := Int.mul_ediv_add_emod n p
  have h2 := Int.emod_nonneg n (show p ≠ 0 by omega)
  have h3 := Int.mul_ediv_add_emod (-n) p
  have h4 := Int.emod_nonneg (-n) (show p ≠ 0 by omega)
  have h5 : p * (n / p + -n / p) ≤ 0 := by rw [Int.mul_add]; omega
  have h6 : n / p + -n / p ≤ 0 := by
    rcases Int.lt_or_le 0 (n / p + -n / p) with h | h
    · have := Int.mul_pos hp h; omega
    · exact h
  omega
def both (f g : Cr → Int) (cs : List Cr) : List Int := cs.flatMap fun c => [f c, g c]
theorem min_both {f g : Cr → Int} : ∀ (cs : List Cr) (m : Int), (∀ c ∈ cs, f c ≤ g c) → (both f g cs).foldl min m = cs.foldl (fun m c => min m (f c)) m
  | [], m, _ => rfl
  | c :: cs, m, h => by
    have h1 := h c (by simp)
    simp only [both, List.flatMap_cons, List.foldl_append, List.foldl_cons, List.foldl_nil]
    rw [show min (min m (f c)) (g c) = min m (f c) by omega]
    exact min_both cs _ fun x hx => h x (by simp [hx])
theorem max_both {f g : Cr → Int} : ∀ (cs : List Cr) (m : Int), (∀ c ∈ cs, f c ≤ g c) → (both f g cs).foldl max m = cs.foldl (fun m c => max m (g c)) m
  | [], m, _ => rfl
  | c :: cs, m, h => by
    have h1 := h c (by simp)
    simp only [both, List.flatMap_cons, List.foldl_append, List.foldl_cons, List.foldl_nil]
    rw [show max (max m (f c)) (g c) = max m (g c) by omega]
    exact max_both cs _ fun x hx => h x (by simp [hx])
theorem both_len {f g : Cr → Int} : ∀ cs : List Cr, (both f g cs).length = 2 * cs.length
  | [] => rfl
  | c :: cs => by
    have := both_len (f := f) (g := g) cs
    simp only [both, List.flatMap_cons, List.length_append, List.length_cons, List.length_nil] at this ⊢
    omega
theorem e58b {f g : Cr → Int} (c : Cr) (cs : List Cr) (hl : cs.length < 1000000) (h : ∀ x ∈ c :: cs, f x ≤ g x) : evL FN 58 [nums (both f g (c :: cs))] = some (.node [I (lo2 f g c cs), I (hi2 f g c cs)]) := by
  have hh := h c (by simp)
  have hb : both f g (c :: cs) = f c :: (g c :: both f g cs) := by simp [both]
  rw [hb, e58 _ _ (by simp only [List.length_cons, both_len]; omega)]
  simp only [List.foldl_cons]
  have h1 : min (f c) (g c) = f c := by omega
  have h2 : max (f c) (g c) = g c := by omega
  rw [h1, h2, min_both cs _ fun x hx => h x (by simp [hx]), max_both cs _ fun x hx => h x (by simp [hx])]
  rfl
def bndS (hs : List Hf) : (Int × Int) × (Int × Int) × Int :=
  if okA hs = false then ((0, 0), (0, 0), 40) else match crnR hs hs.length with
    | [] => ((0, 0), (0, 0), 43)
    | c :: cs => ((lo2 fX gX c cs, hi2 fX gX c cs), (lo2 fY gY c cs, hi2 fY gY c cs), 0)
def bndD (b : (Int × Int) × (Int × Int) × Int) : D := .node [.node [I b.1.1, I b.1.2], .node [I b.2.1.1, I b.2.1.2], I b.2.2]
end Go.Q
