/- Guide: the reference's list of corners. -/
import Derived.Test.YtcgeghpmnnhcpaaGb5
set_option linter.unusedVariables false
set_option linter.unusedSimpArgs false
namespace Go.Q
open Go.V
theorem iter_flag {α : Type} {f : List D → Option (Option Nat × List D)} {p : α → Bool} {u : Nat} {xs : List α}
    (hstep : ∀ (i : Nat) x, xs[i]? = some x → f [.bool true, I i] = some (none, [.bool (p x), I ((i + 1 : Nat) : Int)]))
    (hstop : ∀ i : Nat, f [.bool false, I i] = some (some u, [.bool false]))
    (hend : f [.bool true, I xs.length] = some (some u, [.bool true])) : iterL f [.bool true, I 0] = some (u, [.bool (xs.all p)]) := by
  have key : ∀ (l pre : List α), xs = pre ++ l → iterL f [.bool true, I pre.length] = some (u, [.bool (l.all p)]) := by
    intro l
    induction l with
    | nil =>
      intro pre hx
      rw [iterL_eq]
      have : pre.length = xs.length := by rw [hx]; simp
      rw [this, hend]; rfl
    | cons x l ih =>
      intro pre hx
      have hget : xs[pre.length]? = some x := by rw [hx]; simp
      rw [iterL_eq, hstep _ x hget]
      have := ih (pre ++ [x]) (by rw [hx]; simp)
      rw [List.length_append] at this
      simp only [List.all_cons]
      cases e : p x
      · show iterL f [.bool false, I ((pre.length + 1 : Nat) : Int)] = _
        rw [iterL_eq, hstop]; rfl
      · simp only [Bool.true_and]; exact this
  exact key xs [] rfl
def crs (cs : List Cr) : D := .list (cs.map Cr.d)
def cor (hs : List Hf) (g h : Hf) : Option Cr := if (cross g h).p ≠ 0 ∧ hs.all (cross g h).isIn = true then some (cross g h) else none
def rowR (hs : List Hf) (h : Hf) (j : Nat) : List Cr := (hs.take j).filterMap fun g => cor hs g h
theorem rowR_le (hs : List Hf) (h : Hf) (j : Nat) : (rowR hs h j).length ≤ j := by
  unfold rowR
  have := List.length_filterMap_le (fun g => cor hs g h) (hs.take j)
  rw [List.length_take] at this
  omega
theorem rowR_succ {hs : List Hf} {h : Hf} {j : Nat} {g : Hf} (e : hs[j]? = some g) : rowR hs h (j + 1) = rowR hs h j ++ (cor hs g h).toList := by
  unfold rowR
  rw [List.take_add_one, List.filterMap_append, e]
  cases e' : cor hs g h <;> simp [e']
def crnR (hs : List Hf) (i : Nat) : List Cr := (hs.take i).zipIdx.flatMap fun q => rowR hs q.1 q.2
theorem crnR_succ {hs : List Hf} {i : Nat} {h : Hf} (e : hs[i]? = some h) : crnR hs (i + 1) = crnR hs i ++ rowR hs h i := by
  have hlt := (List.getElem?_eq_some_iff.1 e).1
  unfold crnR
  rw [List.take_add_one, e, List.zipIdx_append, List.flatMap_append]
  simp [List.zipIdx_cons, Nat.min_eq_left (Nat.le_of_lt hlt)]
theorem crnR_le (hs : List Hf) : ∀ i, i ≤ hs.length → (crnR hs i).length ≤ i * i
  | 0, _ => by simp [crnR]
  | i + 1, h => by
    rw [crnR_succ (List.getElem?_eq_getElem (show i < hs.length by omega)), List.length_append]
    have h1 := crnR_le hs i (by omega)
    have h2 := rowR_le hs hs[i] i
    have h3 : (i + 1) * (i + 1) = i * i + 2 * i + 1 := by rw [Nat.add_mul, Nat.mul_add]; omega
    omega
set_option maxHeartbeats 1600000 in
theorem e75 (hs : List Hf) (hh : ∀ h ∈ hs, h.In) (hl : hs.length < 1000) : evL FN 75 [hfs hs] = some (crs (crnR hs hs.length)) := by
  refine evL_of (F := F75) rfl ?_
  simp [F75, Fn.denV, fits, T.denV, denVK, denL, E.den, hfs, D.den1, binD]
  rw [iter_try (p := fun _ => true) (t := 0) (u := 0) (xs := hs) (r0 := []) (r := [crs (crnR hs hs.length)]) (st := fun i => [I i, crs (crnR hs i)])]
  · simp [denVK, T.denV, E.den]
  · simp [crnR, crs]
  · intro i h hi
    obtain ⟨hlt, rfl⟩ := List.getElem?_eq_some_iff.1 hi
    have hi' : (i : Int) < hs.length := by omega
    have hcl := crnR_le hs i (by omega)
    have hii : i * i ≤ 1000 * 1000 := Nat.mul_le_mul (by omega) (by omega)
    have hlti : (hs.take i).length = i := by rw [List.length_take]; omega
    simp [hi', crs, outOf]
    rw [iter_try (p := fun _ => true) (t := 0) (u := 0) (xs := hs.take i) (r0 := []) (r := [crs (crnR hs i ++ rowR hs hs[i] i)]) (st := fun j => [I j, crs (crnR hs i ++ rowR hs hs[i] j)])]
    · rw [crnR_succ hi]
      simp [denVK, T.denV, E.den, denL, D.den1, binD, crs, wrapN (show i < 9223372036854775807 by omega)]
    · simp [rowR, crs]
    · intro j g hj
      obtain ⟨hlj, rfl⟩ := List.getElem?_eq_some_iff.1 hj
      have hji : j < i := by omega
      have hjs : j < hs.length := by omega
      have hjs' : (j : Int) < hs.length := by omega
      have hji' : (j : Int) < i := by omega
      have hj' : hs[j]? = some hs[j] := List.getElem?_eq_getElem hjs
      have hg := hh hs[j] (List.getElem_mem hjs)
      have hh' := hh hs[i] (List.getElem_mem hlt)
      have hrl := rowR_le hs hs[i] j
      rw [rowR_succ hj']
      simp only [cor, cross]
      have h1 := mulB hg.c hh'.b
      have h2 := mulB hh'.c hg.b
      have h3 := mulB hg.a hh'.c
      have h4 := mulB hh'.a hg.c
      have h5 := mulB hg.a hh'.b
      have h6 := mulB hh'.a hg.b
      have w1 := wrapI (x := hs[j].c * hs[i].b) (by omega)
      have w2 := wrapI (x := hs[i].c * hs[j].b) (by omega)
      have w3 := wrapI (x := hs[j].a * hs[i].c) (by omega)
      have w4 := wrapI (x := hs[i].a * hs[j].c) (by omega)
      have w5 := wrapI (x := hs[j].a * hs[i].b) (by omega)
      have w6 := wrapI (x := hs[i].a * hs[j].b) (by omega)
      have v1 := wrapI (x := hs[j].c * hs[i].b - hs[i].c * hs[j].b) (by omega)
      have v2 := wrapI (x := hs[j].a * hs[i].c - hs[i].a * hs[j].c) (by omega)
      have v3 := wrapI (x := hs[j].a * hs[i].b - hs[i].a * hs[j].b) (by omega)
      have u1 := wrapI (x := -(hs[j].c * hs[i].b - hs[i].c * hs[j].b)) (by omega)
      have u2 := wrapI (x := -(hs[j].a * hs[i].c - hs[i].a * hs[j].c)) (by omega)
      have u3 := wrapI (x := -(hs[j].a * hs[i].b - hs[i].a * hs[j].b)) (by omega)
      simp [hji', hjs, hlt, idx_nat hjs, idx_nat hlt, hi, hj', Hf.d, partD, D.cells, denL, E.den, binD, w1, w2, w3, w4, w5, w6, v1, v2, v3]
      have bx : -200000000000000 ≤ hs[j].c * hs[i].b - hs[i].c * hs[j].b ∧ hs[j].c * hs[i].b - hs[i].c * hs[j].b ≤ 200000000000000 := by omega
      have bY : -200000000000000 ≤ hs[j].a * hs[i].c - hs[i].a * hs[j].c ∧ hs[j].a * hs[i].c - hs[i].a * hs[j].c ≤ 200000000000000 := by omega
      have bq : -2000000 ≤ hs[j].a * hs[i].b - hs[i].a * hs[j].b ∧ hs[j].a * hs[i].b - hs[i].a * hs[j].b ≤ 2000000 := by omega
      clear h1 h2 h3 h4 h5 h6 w1 w2 w3 w4 w5 w6
      generalize hs[j].c * hs[i].b - hs[i].c * hs[j].b = x at *
      generalize hs[j].a * hs[i].c - hs[i].a * hs[j].c = y at *
      generalize hs[j].a * hs[i].b - hs[i].a * hs[j].b = q at *
      by_cases hz : q = 0
      · simp [hz, outOf, denVK, T.denV, denL, E.den, D.den1, binD, wrapN (show j < 9223372036854775807 by omega)]
      by_cases hn : q < 0
      · simp [hz, hn, unD, u1, u2, u3, outOf, denVK, T.denV, denL, E.den, D.den1, -List.all_eq_true]
        rw [iter_flag (p := Cr.isIn ⟨-x, -y, -q⟩) (u := 0) (xs := hs)]
        · have hcap : ((crnR hs i).length + (rowR hs hs[i] j).length + 1 + 1) * 25 ≤ 1099511627776 := by omega
          by_cases hb : ∀ z : Hf, z ∈ hs → Cr.isIn ⟨-x, -y, -q⟩ z = true
          · rw [List.all_eq_true.2 hb, if_pos hb]
            simp [hcap, hz, outOf, denVK, T.denV, denL, E.den, D.den1, binD, crs, Cr.d, fillD, wrapN (show j < 9223372036854775807 by omega)]
          · have hb' : hs.all (Cr.isIn ⟨-x, -y, -q⟩) = false := Bool.eq_false_iff.2 fun h => hb (List.all_eq_true.1 h)
            rw [hb', if_neg hb]
            simp [hcap, hz, outOf, denVK, T.denV, denL, E.den, D.den1, binD, crs, Cr.d, fillD, wrapN (show j < 9223372036854775807 by omega)]
        · intro k z hk
          obtain ⟨hlk, rfl⟩ := List.getElem?_eq_some_iff.1 hk
          have hlk' : (k : Int) < hs.length := by omega
          have hz' := hh hs[k] (List.getElem_mem hlk)
          have m1 := mulB hz'.a (show -200000000000000 ≤ -x ∧ -x ≤ 200000000000000 by omega)
          have m2 := mulB hz'.b (show -200000000000000 ≤ -y ∧ -y ≤ 200000000000000 by omega)
          have m3 := mulB hz'.c (show -2000000 ≤ -q ∧ -q ≤ 2000000 by omega)
          have n1 := wrapI (x := hs[k].a * (-x)) (by omega)
          have n2 := wrapI (x := hs[k].b * (-y)) (by omega)
          have n3 := wrapI (x := hs[k].c * (-q)) (by omega)
          have n4 := wrapI (x := hs[k].a * (-x) + hs[k].b * (-y)) (by omega)
          simp [hlk', hlk, idx_nat hlk, hk, Hf.d, partD, outOf, denVK, T.denV, denL, E.den, D.den1, binD, n1, n2, n3, n4, Cr.isIn, wrapN (show k < 9223372036854775807 by omega)]
        · intro k
          by_cases hk : (k : Int) < hs.length <;> simp [hk, binD, outOf, denVK, T.denV, denL, E.den]
        · simp [outOf, denVK, T.denV, denL, E.den, D.den1, binD]
      · simp [hz, hn, outOf, denVK, T.denV, denL, E.den, D.den1, -List.all_eq_true]
        rw [iter_flag (p := Cr.isIn ⟨x, y, q⟩) (u := 0) (xs := hs)]
        · have hcap : ((crnR hs i).length + (rowR hs hs[i] j).length + 1 + 1) * 25 ≤ 1099511627776 := by omega
          by_cases hb : ∀ z : Hf, z ∈ hs → Cr.isIn ⟨x, y, q⟩ z = true
          · rw [List.all_eq_true.2 hb, if_pos hb]
            simp [hcap, hz, outOf, denVK, T.denV, denL, E.den, D.den1, binD, crs, Cr.d, fillD, wrapN (show j < 9223372036854775807 by omega)]
          · have hb' : hs.all (Cr.isIn ⟨x, y, q⟩) = false := Bool.eq_false_iff.2 fun h => hb (List.all_eq_true.1 h)
            rw [hb', if_neg hb]
            simp [hcap, hz, outOf, denVK, T.denV, denL, E.den, D.den1, binD, crs, Cr.d, fillD, wrapN (show j < 9223372036854775807 by omega)]
        · intro k z hk
          obtain ⟨hlk, rfl⟩ := List.getElem?_eq_some_iff.1 hk
          have hlk' : (k : Int) < hs.length := by omega
          have hz' := hh hs[k] (List.getElem_mem hlk)
          have m1 := mulB hz'.a (show -200000000000000 ≤ x ∧ x ≤ 200000000000000 by omega)
          have m2 := mulB hz'.b (show -200000000000000 ≤ y ∧ y ≤ 200000000000000 by omega)
          have m3 := mulB hz'.c (show -2000000 ≤ q ∧ q ≤ 2000000 by omega)
          have n1 := wrapI (x := hs[k].a * x) (by omega)
          have n2 := wrapI (x := hs[k].b * y) (by omega)
          have n3 := wrapI (x := hs[k].c * q) (by omega)
          have n4 := wrapI (x := hs[k].a * x + hs[k].b * y) (by omega)
          simp [hlk', hlk, idx_nat hlk, hk, Hf.d, partD, outOf, denVK, T.denV, denL, E.den, D.den1, binD, n1, n2, n3, n4, Cr.isIn, wrapN (show k < 9223372036854775807 by omega)]
        · intro k
          by_cases hk : (k : Int) < hs.length <;> simp [hk, binD, outOf, denVK, T.denV, denL, E.den]
        · simp [outOf, denVK, T.denV, denL, E.den, D.den1, binD]
    · simp [outOf, denL, E.den, crs, hlti, Nat.min_eq_left (Nat.le_of_lt hlt), binD]
  · simp [outOf, denL, E.den, crs]
end Go.Q
