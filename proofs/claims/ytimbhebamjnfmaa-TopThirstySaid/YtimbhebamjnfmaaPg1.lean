/- Ported: guide (Gb3 to Gb6) -/
import Derived.Test.YtimbhebamjnfmaaPg0
set_option linter.unusedVariables false
set_option linter.unusedSimpArgs false
set_option maxRecDepth 100000
namespace Go.Q.G
open Go.V
theorem e101 (hs : List Hf) (hl : hs.length < 9223372036854775807) : evL FN 101 [.node [hfs hs]] = some (I (if okA hs then 0 else 40)) := by
  refine evL_of (F := F101) rfl ?_
  have h := e152 hs hl
  simp only [hfs] at h ⊢
  cases e : okA hs <;> rw [e] at h <;> simp [F101, Fn.denV, fits, T.denV, denVK, denL, E.den, D.cells, D.den1, unD, outOf, h]
def nums (xs : List Int) : D := .list (xs.map fun n => [I n])
theorem foldE_ok {σ α ε : Type} (g : σ → α → σ) : ∀ (xs : List α) (s : σ), foldE (ε := ε) (fun s x => .ok (g s x)) s xs = .ok (xs.foldl g s)
  | [], s => rfl
  | x :: xs, s => by simp only [foldE, List.foldl_cons]; exact foldE_ok g xs _
theorem iter_foldl {σ α : Type} {f : List D → Option (Option Nat × List D)} {g : σ → α → σ} {enc : Nat → σ → List D} {u : Nat} {fin : σ → List D} {xs : List α} {s0 : σ} {e0 : List D} (h0 : e0 = enc 0 s0)
    (hstep : ∀ (i : Nat) x s, xs[i]? = some x → f (enc i s) = some (none, enc (i + 1) (g s x)))
    (hend : ∀ s, f (enc xs.length s) = some (some u, fin s)) : iterL f e0 = some (u, fin (xs.foldl g s0)) := by
  have := iter_foldE (σ := σ) (f := f) (enc := enc) (step := fun s x => .ok (g s x)) (u := u) (fin := fin) (xs := xs) (fun _ => True)
    (fun i x s hx _ => by rw [hstep i x s hx]) (fun _ _ _ _ _ _ _ => trivial) (fun s _ => hend s) (s := s0) trivial
  rw [h0, this, foldE_ok]
theorem minC (a b : Int) : (if b < a then b else a) = min a b := by rw [Int.min_def]; split <;> split <;> omega
theorem maxC (a b : Int) : (if b > a then b else a) = max a b := by rw [Int.max_def]; split <;> split <;> omega
theorem idx_succ {n i : Nat} (h : i < n) : D.idx (.int .i64 ((i : Int) + 1)) (n + 1) = some (i + 1) := by
  have h1 : (0 : Int) ≤ (i : Int) + 1 := by omega
  have h2 : (i : Int) + 1 < (n : Int) + 1 := by omega
  simp [D.idx, h1, h2]
theorem wrapN2 {n : Nat} (h : n < 9223372036854775806) : IntKind.i64.wrap ((n : Int) + 1 + 1) = (n : Int) + 1 + 1 := wrapI (by omega)
theorem e168 (x : Int) (xs : List Int) (hl : xs.length < 9223372036854775806) : evL FN 168 [nums (x :: xs)] = some (I (xs.foldl min x)) := by
  refine evL_of (F := F168) rfl ?_
  have k0 : ¬ ((xs.length : Int) + 1 < 1) := by omega
  have k1 : (0 : Int) < (xs.length : Int) + 1 := by omega
  have k2 : D.idx (.int .i64 0) (xs.length + 1) = some 0 := by simp [D.idx, k1]
  simp [F168, Fn.denV, fits, T.denV, denVK, denL, E.den, nums, D.den1, binD, partD, k0, k1, k2]
  rw [iter_foldl (g := min) (s0 := x) (u := 0) (fin := fun s => [I s]) (xs := xs) (enc := fun i s => [I s, I (i + 1)])]
  · simp [denVK, T.denV, E.den]
  · rfl
  · intro i y s hy
    obtain ⟨hlt, rfl⟩ := List.getElem?_eq_some_iff.1 hy
    have hlt' : (i : Int) < xs.length := by omega
    simp [hlt, hlt', idx_succ hlt, hy, mxLD, mxD, outOf, denL, E.den, wrapN2 (show i < 9223372036854775806 by omega)]
    exact minC _ _
  · intro s
    simp [outOf, denL, E.den]
theorem e169 (x : Int) (xs : List Int) (hl : xs.length < 9223372036854775806) : evL FN 169 [nums (x :: xs)] = some (I (xs.foldl max x)) := by
  refine evL_of (F := F169) rfl ?_
  have k0 : ¬ ((xs.length : Int) + 1 < 1) := by omega
  have k1 : (0 : Int) < (xs.length : Int) + 1 := by omega
  have k2 : D.idx (.int .i64 0) (xs.length + 1) = some 0 := by simp [D.idx, k1]
  simp [F169, Fn.denV, fits, T.denV, denVK, denL, E.den, nums, D.den1, binD, partD, k0, k1, k2]
  rw [iter_foldl (g := max) (s0 := x) (u := 0) (fin := fun s => [I s]) (xs := xs) (enc := fun i s => [I s, I (i + 1)])]
  · simp [denVK, T.denV, E.den]
  · rfl
  · intro i y s hy
    obtain ⟨hlt, rfl⟩ := List.getElem?_eq_some_iff.1 hy
    have hlt' : (i : Int) < xs.length := by omega
    simp [hlt, hlt', idx_succ hlt, hy, mxLD, mxD, outOf, denL, E.den, wrapN2 (show i < 9223372036854775806 by omega)]
    exact maxC _ _
  · intro s
    simp [outOf, denL, E.den]
theorem iter_try {α : Type} {f : List D → Option (Option Nat × List D)} {p : α → Bool} {st : Nat → List D} {t u : Nat} {r0 r : List D} {xs : List α} {e0 : List D} (h0 : e0 = st 0)
    (hstep : ∀ (i : Nat) x, xs[i]? = some x → f (st i) = if p x then some (none, st (i + 1)) else some (some t, r0))
    (hend : f (st xs.length) = some (some u, r)) : iterL f e0 = if xs.all p then some (u, r) else some (t, r0) := by
  have key : ∀ (l pre : List α), xs = pre ++ l → iterL f (st pre.length) = if l.all p then some (u, r) else some (t, r0) := by
    intro l
    induction l with
    | nil =>
      intro pre hx
      rw [iterL_eq]
      have : pre.length = xs.length := by rw [hx]; simp
      rw [this, hend]; rfl
    | cons x l ih =>
      intro pre hx
      have hget : xs[pre.length]? = some x := by rw [hx]; simp
      rw [iterL_eq, hstep _ x hget]
      by_cases hp : p x = true
      · have := ih (pre ++ [x]) (by rw [hx]; simp)
        rw [List.length_append] at this
        simp only [hp, if_true, List.all_cons, Bool.true_and]
        exact this
      · simp [hp]
  rw [h0]
  exact key xs [] rfl
theorem e112 (x : Int) (xs : List Int) (hl : xs.length < 9223372036854775806) : evL FN 112 [nums (x :: xs)] = some (.node [I (xs.foldl min x), I (xs.foldl max x)]) := by
  refine evL_of (F := F112) rfl ?_
  have h1 := e168 x xs hl
  have h2 := e169 x xs hl
  simp only [nums, List.map_cons] at h1 h2
  simp [F112, Fn.denV, fits, T.denV, denVK, denL, E.den, nums, D.den1, h1, h2]
/-- How far one goes: the least and the greatest. -/
def farLo (a b c d : Int) : Int := min (min (min (a * c) (a * d)) (b * c)) (b * d)
def farHi (a b c d : Int) : Int := max (max (max (a * c) (a * d)) (b * c)) (b * d)
theorem farB {a b c d : Int} (ha : -60 ≤ a ∧ a ≤ 60) (hb : -60 ≤ b ∧ b ≤ 60) (hc : -100000 ≤ c ∧ c ≤ 100000) (hd : -100000 ≤ d ∧ d ≤ 100000) :
    (-6000000 ≤ farLo a b c d ∧ farLo a b c d ≤ 6000000) ∧ (-6000000 ≤ farHi a b c d ∧ farHi a b c d ≤ 6000000) := by
  have h1 := mulB ha hc
  have h2 := mulB ha hd
  have h3 := mulB hb hc
  have h4 := mulB hb hd
  unfold farLo farHi
  omega
theorem e187 {a b c d : Int} (ha : -60 ≤ a ∧ a ≤ 60) (hb : -60 ≤ b ∧ b ≤ 60) (hc : -100000 ≤ c ∧ c ≤ 100000) (hd : -100000 ≤ d ∧ d ≤ 100000) :
    evL FN 187 [.node [I a, I b], .node [I c, I d]] = some (.node [I (farLo a b c d), I (farHi a b c d)]) := by
  refine evL_of (F := F187) rfl ?_
  have h1 := mulB ha hc
  have h2 := mulB ha hd
  have h3 := mulB hb hc
  have h4 := mulB hb hd
  have w1 := wrapI (x := a * c) (by omega)
  have w2 := wrapI (x := a * d) (by omega)
  have w3 := wrapI (x := b * c) (by omega)
  have w4 := wrapI (x := b * d) (by omega)
  have h := e112 (a * c) [a * d, b * c, b * d] (by simp)
  simp only [nums, List.map_cons, List.map_nil, I] at h
  simp [F187, Fn.denV, fits, T.denV, denVK, denL, E.den, D.cells, D.den1, binD, fillD, w1, w2, w3, w4, h, D.flat, D.flat0, farLo, farHi]
/-- A half after a trek. -/
def Hf.mv (t : Tk) (h : Hf) : Hf := ⟨h.a, h.b, h.c + (max (h.a * farLo t.d t.d' t.e t.e') (h.a * farHi t.d t.d' t.e t.e') + max (h.b * farLo t.d t.d' t.n t.n') (h.b * farHi t.d t.d' t.n t.n'))⟩
structure Tk.In (t : Tk) : Prop where
  d : -60 ≤ t.d ∧ t.d ≤ 60
  d' : -60 ≤ t.d' ∧ t.d' ≤ 60
  e : -100000 ≤ t.e ∧ t.e ≤ 100000
  e' : -100000 ≤ t.e' ∧ t.e' ≤ 100000
  n : -100000 ≤ t.n ∧ t.n ≤ 100000
  n' : -100000 ≤ t.n' ∧ t.n' ≤ 100000
theorem Tk.In.of {t : Tk} (h : t.ok = true) : t.In := by
  simp [Tk.ok, inS] at h
  exact ⟨by omega, by omega, by omega, by omega, by omega, by omega⟩
theorem e147 (hs : List Hf) (t : Tk) (ht : t.In) (hh : ∀ h ∈ hs, h.In) (hl : hs.length < 1000) : evL FN 147 [hfs hs, .node t.c] = some (hfs (hs.map (Hf.mv t))) := by
  refine evL_of (F := F147) rfl ?_
  have f1 := e187 ht.d ht.d' ht.e ht.e'
  have f2 := e187 ht.d ht.d' ht.n ht.n'
  have b1 := farB ht.d ht.d' ht.e ht.e'
  have b2 := farB ht.d ht.d' ht.n ht.n'
  simp [F147, Fn.denV, fits, T.denV, denVK, denL, E.den, D.cells, Tk.c, hfs, D.den1, binD, f1, f2]
  rw [iter_try (p := fun _ => true) (t := 0) (u := 0) (xs := hs) (r0 := []) (r := [hfs (hs.map (Hf.mv t))]) (st := fun i => [I i, hfs ((hs.take i).map (Hf.mv t))])]
  · simp [denVK, T.denV, E.den, hfs]
  · rfl
  · intro i h hi
    obtain ⟨hlt, rfl⟩ := List.getElem?_eq_some_iff.1 hi
    have hh' := hh hs[i] (List.getElem_mem hlt)
    unfold Hf.mv
    generalize farLo t.d t.d' t.e t.e' = p1 at *
    generalize farHi t.d t.d' t.e t.e' = p2 at *
    generalize farLo t.d t.d' t.n t.n' = p3 at *
    generalize farHi t.d t.d' t.n t.n' = p4 at *
    have m1 := mulB hh'.a b1.1
    have m2 := mulB hh'.a b1.2
    have m3 := mulB hh'.b b2.1
    have m4 := mulB hh'.b b2.2
    have hc := hh'.c
    have w1 := wrapI (x := hs[i].a * p1) (by omega)
    have w2 := wrapI (x := hs[i].a * p2) (by omega)
    have w3 := wrapI (x := hs[i].b * p3) (by omega)
    have w4 := wrapI (x := hs[i].b * p4) (by omega)
    have w5 := wrapI (x := max (hs[i].a * p1) (hs[i].a * p2) + max (hs[i].b * p3) (hs[i].b * p4)) (by omega)
    have w6 := wrapI (x := hs[i].c + (max (hs[i].a * p1) (hs[i].a * p2) + max (hs[i].b * p3) (hs[i].b * p4))) (by omega)
    have g1 := e112 (hs[i].a * p1) [hs[i].a * p2] (by simp)
    have g2 := e112 (hs[i].b * p3) [hs[i].b * p4] (by simp)
    simp only [nums, List.map_cons, List.map_nil, List.foldl_cons, List.foldl_nil, I] at g1 g2
    have hi' : (i : Int) < hs.length := by omega
    have htk : List.take (i + 1) hs = List.take i hs ++ [hs[i]] := by rw [List.take_add_one, hi]; rfl
    have hcap : (min i hs.length + 1 + 1) * 25 ≤ 1099511627776 := by omega
    simp [hcap, hlt, hi', idx_nat hlt, hi, Hf.d, hfs, partD, D.cells, w1, w2, w3, w4, g1, g2, D.flat, D.flat0, fillD, outOf, denL, E.den, w5, w6, wrapN (show i < 9223372036854775807 by omega)]
    rw [List.take_add_one]
    simp [hi, Hf.d]
  · simp [outOf, denL, E.den, hfs]
theorem okA_in {hs : List Hf} (h : okA hs = true) : (∀ x ∈ hs, x.In) ∧ hs.length ≤ 40 := by
  simp [okA] at h
  exact ⟨fun x hx => .of (h.1.2 x hx), by omega⟩
/-- An area after a trek. -/
def marchS (hs : List Hf) (t : Tk) : List Hf × Int :=
  if okA hs = false then ([], 40) else if t.ok = false then ([], 42) else if (hs.map (Hf.mv t)).all Hf.ok = false then ([], 9) else if hasPl hs = false then ([], 43) else (hs.map (Hf.mv t), 0)
theorem e95 (hs : List Hf) (t : Tk) (hl : hs.length < 9223372036854775807) : evL FN 95 [.node [hfs hs], .node t.c] = some (.node [.node [hfs (marchS hs t).1], I (marchS hs t).2]) := by
  refine evL_of (F := F95) rfl ?_
  have h28 := e101 hs hl
  have h61 := e121 t
  simp only [hfs, Tk.c, I] at h28 h61
  unfold marchS
  cases k1 : okA hs
  · rw [k1] at h28
    simp [F95, Fn.denV, fits, T.denV, denVK, denL, E.den, D.cells, Tk.c, hfs, D.den1, binD, unD, h28]
  rw [k1] at h28
  obtain ⟨hin, hlen⟩ := okA_in k1
  cases k2 : t.ok
  · rw [k2] at h61
    simp [F95, Fn.denV, fits, T.denV, denVK, denL, E.den, D.cells, Tk.c, hfs, D.den1, binD, unD, h28, h61]
  rw [k2] at h61
  have h65 := e147 hs t (.of k2) hin (by omega)
  have h66 := e148 (hs.map (Hf.mv t)) (by rw [List.length_map]; omega)
  have h54 := e108 hs hin hl
  simp only [hfs, Tk.c, I] at h65 h66 h54
  generalize hs.map (Hf.mv t) = ms at *
  cases k3 : ms.all Hf.ok <;> rw [k3] at h66 <;> cases k4 : hasPl hs <;> rw [k4] at h54 <;>
    simp [F95, Fn.denV, fits, T.denV, denVK, denL, E.den, D.cells, Tk.c, hfs, D.den1, binD, unD, h28, h61, h65, h66, h54, D.flat, D.flat0]
def cor (hs : List Hf) (g h : Hf) : Option Cr := if (cross g h).p ≠ 0 ∧ hs.all (cross g h).isIn = true then some (cross g h) else none
def rowR (hs : List Hf) (h : Hf) (j : Nat) : List Cr := (hs.take j).filterMap fun g => cor hs g h
def crnR (hs : List Hf) (i : Nat) : List Cr := (hs.take i).zipIdx.flatMap fun q => rowR hs q.1 q.2
theorem crnR_succ {hs : List Hf} {i : Nat} {h : Hf} (e : hs[i]? = some h) : crnR hs (i + 1) = crnR hs i ++ rowR hs h i := by
  have hlt := (List.getElem?_eq_some_iff.1 e).1
  unfold crnR
  rw [List.take_add_one, e, List.zipIdx_append, List.flatMap_append]
  simp [List.zipIdx_cons, Nat.min_eq_left (Nat.le_of_lt hlt)]
end Go.Q.G
