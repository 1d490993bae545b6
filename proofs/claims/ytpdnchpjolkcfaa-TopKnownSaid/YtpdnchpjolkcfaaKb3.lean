/- Guide: starts, bounds. -/
import Derived.Test.YtpdnchpjolkcfaaKb2
set_option linter.unusedVariables false
set_option linter.unusedSimpArgs false
set_option maxRecDepth 100000
namespace Go.Q
open Go.V
/-- The area of two spans. -/
def startS (a b c d : Int) : List Hf × Int := if inS a b (-10000000) 10000000 && inS c d (-10000000) 10000000 then (sides a b c d, 0) else ([], 2)
theorem inS_in {a b lo hi : Int} (h : inS a b lo hi = true) : lo ≤ a ∧ a ≤ b ∧ b ≤ hi := by
  simp [inS] at h
  omega
theorem e21 (a b c d : Int) : evL FN 21 [.node [I a, I b], .node [I c, I d]] = some (.node [.node [hfs (startS a b c d).1], I (startS a b c d).2]) := by
  refine evL_of (F := F21) rfl ?_
  unfold startS
  cases e1 : inS a b (-10000000) 10000000
  · simp [F21, Fn.denV, fits, T.denV, denVK, denL, E.den, D.cells, D.den1, binD, unD, outOf, e58, e1, hfs]
  cases e2 : inS c d (-10000000) 10000000
  · simp [F21, Fn.denV, fits, T.denV, denVK, denL, E.den, D.cells, D.den1, binD, unD, outOf, e58, e1, e2, hfs]
  have h1 := inS_in e1
  have h2 := inS_in e2
  have h64 := e59 (a := a) (b := b) (c := c) (d := d) (by omega) (by omega) (by omega) (by omega)
  simp [F21, Fn.denV, fits, T.denV, denVK, denL, E.den, D.cells, D.den1, binD, unD, outOf, e58, e1, e2, h64]
def lo2 (f g : Cr → Int) (c : Cr) (cs : List Cr) : Int := cs.foldl (fun m c => min m (f c)) (f c)
def hi2 (f g : Cr → Int) (c : Cr) (cs : List Cr) : Int := cs.foldl (fun m c => max m (g c)) (g c)
def fX (c : Cr) : Int := c.x / c.p
def gX (c : Cr) : Int := -(-c.x / c.p)
def fY (c : Cr) : Int := c.y / c.p
def gY (c : Cr) : Int := -(-c.y / c.p)
theorem fg_le {n p : Int} (hp : 0 < p) : n / p ≤ -(-n / p) := by
  have h1 := Int.mul_ediv_add_emod n p
  have h2 := Int.emod_nonneg n (show p ≠ 0 by omega)
  have h3 := Int.mul_ediv_add_emod (-n) p
  have h4 := Int.emod_nonneg (-n) (show p ≠ 0 by omega)
  have h5 : p * (n / p + -n / p) ≤ 0 := by rw [Int.mul_add]; omega
  have h6 : n / p + -n / p ≤ 0 := by
    rcases Int.lt_or_le 0 (n / p + -n / p) with h | h
    · have := Int.mul_pos hp h; omega
    · exact h
  omega
def both (f g : Cr → Int) (cs : List Cr) : List Int := cs.flatMap fun c => [f c, g c]
theorem min_both {f g : Cr → Int} : ∀ (cs : List Cr) (m : Int), (∀ c ∈ cs, f c ≤ g c) → (both f g cs).foldl min m = cs.foldl (fun m c => min m (f c)) m
  | [], m, _ => rfl
  | c :: cs, m, h => by
    have h1 := h c (by simp)
    simp only [both, List.flatMap_cons, List.foldl_append, List.foldl_cons, List.foldl_nil]
    rw [show min (min m (f c)) (g c) = min m (f c) by omega]
    exact min_both cs _ fun x hx => h x (by simp [hx])
theorem max_both {f g : Cr → Int} : ∀ (cs : List Cr) (m : Int), (∀ c ∈ cs, f c ≤ g c) → (both f g cs).foldl max m = cs.foldl (fun m c => max m (g c)) m
  | [], m, _ => rfl
  | c :: cs, m, h => by
    have h1 := h c (by simp)
    simp only [both, List.flatMap_cons, List.foldl_append, List.foldl_cons, List.foldl_nil]
    rw [show max (max m (f c)) (g c) = max m (g c) by omega]
    exact max_both cs _ fun x hx => h x (by simp [hx])
theorem both_len {f g : Cr → Int} : ∀ cs : List Cr, (both f g cs).length = 2 * cs.length
  | [] => rfl
  | c :: cs => by
    have := both_len (f := f) (g := g) cs
    simp only [both, List.flatMap_cons, List.length_append, List.length_cons, List.length_nil] at this ⊢
    omega
theorem e58b {f g : Cr → Int} (c : Cr) (cs : List Cr) (hl : cs.length < 1000000) (h : ∀ x ∈ c :: cs, f x ≤ g x) : evL FN 68 [nums (both f g (c :: cs))] = some (.node [I (lo2 f g c cs), I (hi2 f g c cs)]) := by
  have hh := h c (by simp)
  have hb : both f g (c :: cs) = f c :: (g c :: both f g cs) := by simp [both]
  rw [hb, e68 _ _ (by simp only [List.length_cons, both_len]; omega)]
  simp only [List.foldl_cons]
  have h1 : min (f c) (g c) = f c := by omega
  have h2 : max (f c) (g c) = g c := by omega
  rw [h1, h2, min_both cs _ fun x hx => h x (by simp [hx]), max_both cs _ fun x hx => h x (by simp [hx])]
  rfl
def bndS (hs : List Hf) : (Int × Int) × (Int × Int) × Int :=
  if okA hs = false then ((0, 0), (0, 0), 40) else match crnR hs hs.length with
    | [] => ((0, 0), (0, 0), 43)
    | c :: cs => ((lo2 fX gX c cs, hi2 fX gX c cs), (lo2 fY gY c cs, hi2 fY gY c cs), 0)
def bndD (b : (Int × Int) × (Int × Int) × Int) : D := .node [.node [I b.1.1, I b.1.2], .node [I b.2.1.1, I b.2.1.2], I b.2.2]
theorem fold4 {f1 f2 f3 f4 : Int → Cr → Int} : ∀ (cs : List Cr) (a b c d : Int), cs.foldl (fun (s : Int × Int × Int × Int) x => (f1 s.1 x, f2 s.2.1 x, f3 s.2.2.1 x, f4 s.2.2.2 x)) (a, b, c, d) = (cs.foldl f1 a, cs.foldl f2 b, cs.foldl f3 c, cs.foldl f4 d)
  | [], _, _, _, _ => rfl
  | x :: cs, a, b, c, d => by
    simp only [List.foldl_cons]
    exact fold4 cs _ _ _ _
theorem minD (a b : Int) : mxD false (I a) (I b) = some (I (min a b)) := by simp only [mxD, I]; congr 1; rw [← minC]; rfl
theorem maxD (a b : Int) : mxD true (I a) (I b) = some (I (max a b)) := by simp only [mxD, I]; congr 1; rw [← maxC]; rfl
theorem capb {n : Nat} (h : n < 1000000) : (n + 1) * 9 ≤ 1099511627776 := by omega
theorem cor_of {hs : List Hf} {g h : Hf} : cor hs h g = if good hs g h then some (cross g h) else none := by
  cases e : good hs g h
  · cases e2 : cor hs h g with
    | none => simp
    | some c =>
      have := good_comm (cor_iff.1 e2).1
      rw [this] at e; cases e
  · simp only [if_true]
    exact cor_iff.2 ⟨good_comm e, cross_comm_good (hs := hs) (by have := (good_iff.1 e).1; omega)⟩
theorem e26 (hs : List Hf) (hl : hs.length < 9223372036854775807) : evL FN 26 [.node [hfs hs]] = some (bndD (bndS hs)) := by
  refine evL_of (F := F26) rfl ?_
  have h28 := e60 hs hl
  simp only [hfs, I] at h28
  unfold bndS bndD
  cases k1 : okA hs
  · rw [k1] at h28
    simp [F26, Fn.denV, fits, T.denV, denVK, denL, E.den, D.cells, hfs, D.den1, binD, unD, h28]
  rw [k1] at h28
  obtain ⟨hin, hlen⟩ := okA_in k1
  have hc : ∀ c ∈ crnR hs hs.length, c.In ∧ 0 < c.p := fun c hc => crn_in hin hc
  have hcl := crnR_le hs hs.length (Nat.le_refl _)
  have hcl2 : hs.length * hs.length ≤ 40 * 40 := Nat.mul_le_mul (by omega) (by omega)
  simp [F26, Fn.denV, fits, T.denV, denVK, denL, E.den, D.cells, hfs, D.den1, binD, unD, h28]
  rw [iter_try (p := fun _ => true) (t := 0) (u := 0) (xs := hs) (r0 := []) (r := [nums (both fX gX (crnR hs hs.length)), nums (both fY gY (crnR hs hs.length))]) (st := fun i => [I i, nums (both fX gX (crnR hs i)), nums (both fY gY (crnR hs i))])]
  · simp [denVK, T.denV, denL, E.den, D.den1, binD, nums]
    generalize crnR hs hs.length = ds at hc hcl ⊢
    cases ds with
    | nil => simp [both, denVK, T.denV, denL, E.den, D.cells]
    | cons c cs =>
      rw [List.length_cons] at hcl
      have b1 := e58b (f := fX) (g := gX) c cs (by omega) (fun x hx => fg_le (hc x hx).2)
      have b2 := e58b (f := fY) (g := gY) c cs (by omega) (fun x hx => fg_le (hc x hx).2)
      have n0 : (both fX gX (c :: cs)).length = 2 * cs.length + 2 := by rw [both_len, List.length_cons]; omega
      have n1 : ¬ ((2 * (cs.length : Int) + 2 : Int) = 0) := by omega
      have n2 : both fX gX (c :: cs) ≠ [] := by simp [both]
      simp only [nums, I] at b1 b2
      simp [n2, n0, n1, b1, b2, T.denV, denVK, denL, E.den, D.cells, D.flat, D.flat0]
  · simp [crnR, both, nums]
  · intro i h hi
    obtain ⟨hlt, rfl⟩ := List.getElem?_eq_some_iff.1 hi
    have hi' : (i : Int) < hs.length := by omega
    have hcl := crnR_le hs i (by omega)
    have hii : i * i ≤ 40 * 40 := Nat.mul_le_mul (by omega) (by omega)
    have hlti : (hs.take i).length = i := by rw [List.length_take]; omega
    have h3 : ∀ l : List Hf, l.all ((fun y => y.length == 3) ∘ Hf.d) = true := fun l => by simp [Hf.d]
    simp [-List.map_take, ← List.map_take, h3, Function.comp_def, hi', hlt, idx_nat hlt, upto_nat (Nat.le_of_lt hlt), hi, Hf.d, nums, partD, D.cells, outOf]
    rw [iter_try (p := fun _ => true) (t := 0) (u := 0) (xs := hs.take i) (r0 := []) (r := [nums (both fX gX (crnR hs i ++ rowR hs hs[i] i)), nums (both fY gY (crnR hs i ++ rowR hs hs[i] i))])
      (st := fun j => [I j, nums (both fX gX (crnR hs i ++ rowR hs hs[i] j)), nums (both fY gY (crnR hs i ++ rowR hs hs[i] j))])]
    · rw [crnR_succ hi]
      simp [denVK, T.denV, E.den, denL, D.den1, binD, nums, wrapN (show i < 9223372036854775807 by omega)]
    · simp [rowR, nums]
    · intro j g hj
      obtain ⟨hlj, rfl⟩ := List.getElem?_eq_some_iff.1 hj
      have hji : j < i := by omega
      have hjs : j < hs.length := by omega
      have hji' : (j : Int) < i := by omega
      have hjm : j < min i hs.length := by omega
      have hj' : (List.take i hs)[j]? = some hs[j] := by rw [hj, List.getElem_take]
      have hg := hin hs[i] (List.getElem_mem hlt)
      have hh' := hin hs[j] (List.getElem_mem hjs)
      have hrl := rowR_le hs hs[i] j
      have hI := crossIn hg hh'
      have e105' := e105 hg hh'
      have e87' := e66c (cross hs[i] hs[j]) hs hI hin hl
      rw [rowR_succ (List.getElem?_eq_getElem hjs), cor_of, good]
      have hx := hI.x
      have hy := hI.y
      simp only [Hf.d, Cr.d, hfs, I] at e105' e87'
      have capx : ((both fX gX (crnR hs i ++ rowR hs hs[i] j)).length + 2 + 1) * 9 ≤ 1099511627776 := capb (by rw [both_len, List.length_append]; omega)
      have capy : ((both fY gY (crnR hs i ++ rowR hs hs[i] j)).length + 2 + 1) * 9 ≤ 1099511627776 := capb (by rw [both_len, List.length_append]; omega)
      generalize hs.all (cross hs[i] hs[j]).isIn = b at e87' ⊢
      simp only [← List.append_assoc]
      generalize crnR hs i ++ rowR hs hs[i] j = L at capx capy ⊢
      by_cases hp : 0 < (cross hs[i] hs[j]).p
      · have q1 := e66 hp (n := (cross hs[i] hs[j]).x) (by omega)
        have q2 := e67 hp (n := (cross hs[i] hs[j]).x) (by omega)
        have q3 := e66 hp (n := (cross hs[i] hs[j]).y) (by omega)
        have q4 := e67 hp (n := (cross hs[i] hs[j]).y) (by omega)
        simp only [I] at q1 q2 q3 q4
        cases b
        · simp [-List.map_take, ← List.map_take, binD, hji, hji', hjs, hlt, hjm, idx_nat hjm, hj', Hf.d, nums, partD, D.cells, D.flat, D.flat0, unD, e105', e87', hp, outOf, denVK, T.denV, denL, E.den, D.den1, wrapN (show j < 9223372036854775807 by omega)]
        · simp [-List.map_take, ← List.map_take, binD, hji, hji', hjs, hlt, hjm, idx_nat hjm, hj', Hf.d, nums, partD, D.cells, D.flat, D.flat0, unD, e105', e87', hp, q1, q2, q3, q4, capx, capy, fillD, outOf, denVK, T.denV, denL, E.den, D.den1, wrapN (show j < 9223372036854775807 by omega)]
          simp [both, fX, gX, fY, gY]
      · simp [-List.map_take, ← List.map_take, binD, hji, hji', hjs, hlt, hjm, idx_nat hjm, hj', Hf.d, nums, partD, D.cells, D.flat, D.flat0, unD, e105', hp, outOf, denVK, T.denV, denL, E.den, D.den1, wrapN (show j < 9223372036854775807 by omega)]
    · simp [outOf, denL, E.den, hlti, Nat.min_eq_left (Nat.le_of_lt hlt), binD]
  · simp [outOf, denL, E.den]
end Go.Q
