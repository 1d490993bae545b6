/- Guide: corners. -/
import Derived.Test.YtpdnchpjolkcfaaKb0
set_option linter.unusedVariables false
set_option linter.unusedSimpArgs false
set_option maxRecDepth 100000
namespace Go.Q
open Go.V
def nums (xs : List Int) : D := .list (xs.map fun n => [I n])
theorem foldE_ok {σ α ε : Type} (g : σ → α → σ) : ∀ (xs : List α) (s : σ), foldE (ε := ε) (fun s x => .ok (g s x)) s xs = .ok (xs.foldl g s)
  | [], s => rfl
  | x :: xs, s => by simp only [foldE, List.foldl_cons]; exact foldE_ok g xs _
theorem iter_foldl {σ α : Type} {f : List D → Option (Option Nat × List D)} {g : σ → α → σ} {enc : Nat → σ → List D} {u : Nat} {fin : σ → List D} {xs : List α} {s0 : σ} {e0 : List D} (h0 : e0 = enc 0 s0)
    (hstep : ∀ (i : Nat) x s, xs[i]? = some x → f (enc i s) = some (none, enc (i + 1) (g s x)))
    (hend : ∀ s, f (enc xs.length s) = some (some u, fin s)) : iterL f e0 = some (u, fin (xs.foldl g s0)) := by
  have := iter_foldE (σ := σ) (f := f) (enc := enc) (step := fun s x => .ok (g s x)) (u := u) (fin := fin) (xs := xs) (fun _ => True)
    (fun i x s hx _ => by rw [hstep i x s hx]) (fun _ _ _ _ _ _ _ => trivial) (fun s _ => hend s) (s := s0) trivial
  rw [h0, this, foldE_ok]
theorem minC (a b : Int) : (if b < a then b else a) = min a b := by rw [Int.min_def]; split <;> split <;> omega
theorem maxC (a b : Int) : (if b > a then b else a) = max a b := by rw [Int.max_def]; split <;> split <;> omega
theorem maxC' (a b : Int) : (if a < b then b else a) = max a b := by rw [Int.max_def]; split <;> split <;> omega
theorem idx_succ {n i : Nat} (h : i < n) : D.idx (.int .i64 ((i : Int) + 1)) (n + 1) = some (i + 1) := by
  have h1 : (0 : Int) ≤ (i : Int) + 1 := by omega
  have h2 : (i : Int) + 1 < (n : Int) + 1 := by omega
  simp [D.idx, h1, h2]
theorem wrapN2 {n : Nat} (h : n < 9223372036854775806) : IntKind.i64.wrap ((n : Int) + 1 + 1) = (n : Int) + 1 + 1 := wrapI (by omega)
theorem e107 (x : Int) (xs : List Int) (hl : xs.length < 9223372036854775806) : evL FN 107 [nums (x :: xs)] = some (I (xs.foldl min x)) := by
  refine evL_of (F := F107) rfl ?_
  have k0 : ¬ ((xs.length : Int) + 1 < 1) := by omega
  have k1 : (0 : Int) < (xs.length : Int) + 1 := by omega
  have k2 : D.idx (.int .i64 0) (xs.length + 1) = some 0 := by simp [D.idx, k1]
  simp [F107, Fn.denV, fits, T.denV, denVK, denL, E.den, nums, D.den1, binD, partD, k0, k1, k2]
  rw [iter_foldl (g := min) (s0 := x) (u := 0) (fin := fun s => [I s]) (xs := xs) (enc := fun i s => [I s, I (i + 1)])]
  · simp [denVK, T.denV, E.den]
  · rfl
  · intro i y s hy
    obtain ⟨hlt, rfl⟩ := List.getElem?_eq_some_iff.1 hy
    have hlt' : (i : Int) < xs.length := by omega
    simp [hlt, hlt', idx_succ hlt, hy, mxLD, mxD, outOf, denL, E.den, wrapN2 (show i < 9223372036854775806 by omega)]
    exact minC _ _
  · intro s
    simp [outOf, denL, E.den]
theorem e108 (x : Int) (xs : List Int) (hl : xs.length < 9223372036854775806) : evL FN 108 [nums (x :: xs)] = some (I (xs.foldl max x)) := by
  refine evL_of (F := F108) rfl ?_
  have k0 : ¬ ((xs.length : Int) + 1 < 1) := by omega
  have k1 : (0 : Int) < (xs.length : Int) + 1 := by omega
  have k2 : D.idx (.int .i64 0) (xs.length + 1) = some 0 := by simp [D.idx, k1]
  simp [F108, Fn.denV, fits, T.denV, denVK, denL, E.den, nums, D.den1, binD, partD, k0, k1, k2]
  rw [iter_foldl (g := max) (s0 := x) (u := 0) (fin := fun s => [I s]) (xs := xs) (enc := fun i s => [I s, I (i + 1)])]
  · simp [denVK, T.denV, E.den]
  · rfl
  · intro i y s hy
    obtain ⟨hlt, rfl⟩ := List.getElem?_eq_some_iff.1 hy
    have hlt' : (i : Int) < xs.length := by omega
    simp [hlt, hlt', idx_succ hlt, hy, mxLD, mxD, outOf, denL, E.den, wrapN2 (show i < 9223372036854775806 by omega)]
    exact maxC _ _
  · intro s
    simp [outOf, denL, E.den]
theorem iter_try {α : Type} {f : List D → Option (Option Nat × List D)} {p : α → Bool} {st : Nat → List D} {t u : Nat} {r0 r : List D} {xs : List α} {e0 : List D} (h0 : e0 = st 0)
    (hstep : ∀ (i : Nat) x, xs[i]? = some x → f (st i) = if p x then some (none, st (i + 1)) else some (some t, r0))
    (hend : f (st xs.length) = some (some u, r)) : iterL f e0 = if xs.all p then some (u, r) else some (t, r0) := by
  have key : ∀ (l pre : List α), xs = pre ++ l → iterL f (st pre.length) = if l.all p then some (u, r) else some (t, r0) := by
    intro l
    induction l with
    | nil =>
      intro pre hx
      rw [iterL_eq]
      have : pre.length = xs.length := by rw [hx]; simp
      rw [this, hend]; rfl
    | cons x l ih =>
      intro pre hx
      have hget : xs[pre.length]? = some x := by rw [hx]; simp
      rw [iterL_eq, hstep _ x hget]
      by_cases hp : p x = true
      · have := ih (pre ++ [x]) (by rw [hx]; simp)
        rw [List.length_append] at this
        simp only [hp, if_true, List.all_cons, Bool.true_and]
        exact this
      · simp [hp]
  rw [h0]
  exact key xs [] rfl
theorem e68 (x : Int) (xs : List Int) (hl : xs.length < 9223372036854775806) : evL FN 68 [nums (x :: xs)] = some (.node [I (xs.foldl min x), I (xs.foldl max x)]) := by
  refine evL_of (F := F68) rfl ?_
  have h1 := e107 x xs hl
  have h2 := e108 x xs hl
  simp only [nums, List.map_cons] at h1 h2
  simp [F68, Fn.denV, fits, T.denV, denVK, denL, E.den, nums, D.den1, h1, h2]
/-- How far one goes: the least and the greatest. -/
def farLo (a b c d : Int) : Int := min (min (min (a * c) (a * d)) (b * c)) (b * d)
def farHi (a b c d : Int) : Int := max (max (max (a * c) (a * d)) (b * c)) (b * d)
theorem farB {a b c d : Int} (ha : -60 ≤ a ∧ a ≤ 60) (hb : -60 ≤ b ∧ b ≤ 60) (hc : -100000 ≤ c ∧ c ≤ 100000) (hd : -100000 ≤ d ∧ d ≤ 100000) :
    (-6000000 ≤ farLo a b c d ∧ farLo a b c d ≤ 6000000) ∧ (-6000000 ≤ farHi a b c d ∧ farHi a b c d ≤ 6000000) := by
  have h1 := mulB ha hc
  have h2 := mulB ha hd
  have h3 := mulB hb hc
  have h4 := mulB hb hd
  unfold farLo farHi
  omega
/-- A half after a trek. -/
def Hf.mv (t : Tk) (h : Hf) : Hf := ⟨h.a, h.b, h.c + (max (h.a * farLo t.d t.d' t.e t.e') (h.a * farHi t.d t.d' t.e t.e') + max (h.b * farLo t.d t.d' t.n t.n') (h.b * farHi t.d t.d' t.n t.n'))⟩
structure Tk.In (t : Tk) : Prop where
  d : -60 ≤ t.d ∧ t.d ≤ 60
  d' : -60 ≤ t.d' ∧ t.d' ≤ 60
  e : -100000 ≤ t.e ∧ t.e ≤ 100000
  e' : -100000 ≤ t.e' ∧ t.e' ≤ 100000
  n : -100000 ≤ t.n ∧ t.n ≤ 100000
  n' : -100000 ≤ t.n' ∧ t.n' ≤ 100000
theorem Tk.In.of {t : Tk} (h : t.ok = true) : t.In := by
  simp [Tk.ok, inS] at h
  exact ⟨by omega, by omega, by omega, by omega, by omega, by omega⟩
/-- Whether a half lies within its limits after a trek. -/
def Hf.mok (t : Tk) (h : Hf) : Bool := inR (h.mv t).c (-100000000000) 100000000000
theorem okA_in {hs : List Hf} (h : okA hs = true) : (∀ x ∈ hs, x.In) ∧ hs.length ≤ 40 := by
  simp [okA] at h
  exact ⟨fun x hx => .of (h.1.2 x hx), by omega⟩
/-- An area after a trek. -/
def marchS (hs : List Hf) (t : Tk) : List Hf × Int :=
  if okA hs = false then ([], 40) else if t.ok = false then ([], 42) else if (hs.map (Hf.mv t)).all Hf.ok = false then ([], 9) else if hasPl hs = false then ([], 43) else (hs.map (Hf.mv t), 0)
theorem iter_flag {α : Type} {f : List D → Option (Option Nat × List D)} {p : α → Bool} {u : Nat} {xs : List α}
    (hstep : ∀ (i : Nat) x, xs[i]? = some x → f [.bool true, I i] = some (none, [.bool (p x), I ((i + 1 : Nat) : Int)]))
    (hstop : ∀ i : Nat, f [.bool false, I i] = some (some u, [.bool false]))
    (hend : f [.bool true, I xs.length] = some (some u, [.bool true])) : iterL f [.bool true, I 0] = some (u, [.bool (xs.all p)]) := by
  have key : ∀ (l pre : List α), xs = pre ++ l → iterL f [.bool true, I pre.length] = some (u, [.bool (l.all p)]) := by
    intro l
    induction l with
    | nil =>
      intro pre hx
      rw [iterL_eq]
      have : pre.length = xs.length := by rw [hx]; simp
      rw [this, hend]; rfl
    | cons x l ih =>
      intro pre hx
      have hget : xs[pre.length]? = some x := by rw [hx]; simp
      rw [iterL_eq, hstep _ x hget]
      have := ih (pre ++ [x]) (by rw [hx]; simp)
      rw [List.length_append] at this
      simp only [List.all_cons]
      cases e : p x
      · show iterL f [.bool false, I ((pre.length + 1 : Nat) : Int)] = _
        rw [iterL_eq, hstop]; rfl
      · simp only [Bool.true_and]; exact this
  exact key xs [] rfl
def crs (cs : List Cr) : D := .list (cs.map Cr.d)
def cor (hs : List Hf) (g h : Hf) : Option Cr := if (cross g h).p ≠ 0 ∧ hs.all (cross g h).isIn = true then some (cross g h) else none
def rowR (hs : List Hf) (h : Hf) (j : Nat) : List Cr := (hs.take j).filterMap fun g => cor hs g h
theorem rowR_le (hs : List Hf) (h : Hf) (j : Nat) : (rowR hs h j).length ≤ j := by
  unfold rowR
  have := List.length_filterMap_le (fun g => cor hs g h) (hs.take j)
  rw [List.length_take] at this
  omega
theorem rowR_succ {hs : List Hf} {h : Hf} {j : Nat} {g : Hf} (e : hs[j]? = some g) : rowR hs h (j + 1) = rowR hs h j ++ (cor hs g h).toList := by
  unfold rowR
  rw [List.take_add_one, List.filterMap_append, e]
  cases e' : cor hs g h <;> simp [e']
def crnR (hs : List Hf) (i : Nat) : List Cr := (hs.take i).zipIdx.flatMap fun q => rowR hs q.1 q.2
theorem crnR_succ {hs : List Hf} {i : Nat} {h : Hf} (e : hs[i]? = some h) : crnR hs (i + 1) = crnR hs i ++ rowR hs h i := by
  have hlt := (List.getElem?_eq_some_iff.1 e).1
  unfold crnR
  rw [List.take_add_one, e, List.zipIdx_append, List.flatMap_append]
  simp [List.zipIdx_cons, Nat.min_eq_left (Nat.le_of_lt hlt)]
theorem crnR_le (hs : List Hf) : ∀ i, i ≤ hs.length → (crnR hs i).length ≤ i * i
  | 0, _ => by simp [crnR]
  | i + 1, h => by
    rw [crnR_succ (List.getElem?_eq_getElem (show i < hs.length by omega)), List.length_append]
    have h1 := crnR_le hs i (by omega)
    have h2 := rowR_le hs hs[i] i
    have h3 : (i + 1) * (i + 1) = i * i + 2 * i + 1 := by rw [Nat.add_mul, Nat.mul_add]; omega
    omega
end Go.Q
