/- Ported: way (Ra2, Ra3) -/
import Derived.Test.YtimbhebamjnfmaaMa0
set_option linter.unusedVariables false
set_option linter.unusedSimpArgs false
set_option maxRecDepth 100000
namespace Go.Q
open Go.V
/-- Stops. -/
structure Sp where
  leg : Int
  well : Int
  ll : Int
  lh : Int
  al : Int
  ah : Int
def Sp.d (s : Sp) : List D := [I s.leg, I s.well, I s.ll, I s.lh, I s.al, I s.ah]
def sps (ss : List Sp) : D := .list (ss.map Sp.d)
theorem take_succ_len {L : List (List Sp)} {i : Nat} (h : i < L.length) : (L.take (i + 1)).flatten = (L.take i).flatten ++ L[i] := by
  rw [List.take_add_one, List.getElem?_eq_getElem h, List.flatten_append]; simp
theorem take_len_le {L : List (List Sp)} (i : Nat) : (L.take i).flatten.length ≤ L.flatten.length := by
  have : L.flatten = (L.take i).flatten ++ (L.drop i).flatten := by rw [← List.flatten_append, List.take_append_drop]
  rw [this, List.length_append]; omega
/-- The tree in three parts: how long all is; room; what is appended. -/
def c124 : T := .op .len [.v 0] <|
   .loop [.c (.int .i64 (0)), .v 6] (
    .op (.bin .lss) [.v 8, .v 7] <|
    .ite (.v 10) (.op (.idx 1) [.v 0, .v 8] <|
     .op (.elem 0 none) [.v 0, .v 8] <|
     .op (.app 6 48) [.v 9, .v 12] <|
     .op (.bin .add) [.v 8, .c (.int .i64 (1))] <|
     .leaf 0) <|
    .leaf 1) [([.v 14, .v 13], none), ([.v 9], some 0)] [.leaf 0]
def b124 : T := .ite (.v 5) (.op (.appZ 6 48 [.int .i64 (0), .int .i64 (0), .int .i64 (0), .int .i64 (0), .int .i64 (0), .int .i64 (0)]) [.v 4] <|
    .op (.sl 6 false true) [.v 6, .c (.int .i64 (0))] <|
    .leaf 0) <|
   .leaf 1
def a124 : T := .op (.bin .lss) [.v 2, .c (.int .i64 (0))] <|
  .ite (.v 3) (.fail) <|
  .op (.bin .sub) [.v 2, .c (.int .i64 (0))] <|
  .op (.bin .gtr) [.v 4, .c (.int .i64 (0))] <|
  .blk b124 [([.v 7], 0), ([.c (.list [])], 0)] [c124]
theorem F140_eq : F140 = ⟨[none], .op .len [.v 0] <|
 .loop [.c (.int .i64 (0)), .c (.int .i64 (0))] (
  .op (.bin .lss) [.v 3, .v 1] <|
  .ite (.v 4) (.op (.idx 1) [.v 0, .v 3] <|
   .op (.elem 0 none) [.v 0, .v 3] <|
   .op .len [.v 6] <|
   .op (.bin .add) [.v 2, .v 7] <|
   .op (.bin .lss) [.v 8, .c (.int .i64 (0))] <|
   .ite (.v 9) (.fail) <|
   .op (.bin .add) [.v 3, .c (.int .i64 (1))] <|
   .leaf 0) <|
  .leaf 1) [([.v 8, .v 10], none), ([.v 2], some 0)] [a124], [.v 8], .own 6⟩ := rfl
theorem cap49 {n : Nat} (h : n ≤ 1000) : ((n : Int) + 1) * (((48 : Nat) : Int) + 1) ≤ 1099511627776 := by
  have h1 : (n + 1) * 49 ≤ 1001 * 49 := Nat.mul_le_mul_right 49 (by omega)
  have h2 : (n + 1) * 49 ≤ 1099511627776 := Nat.le_trans h1 (by decide)
  have h3 : (((n + 1) * 49 : Nat) : Int) ≤ ((1099511627776 : Nat) : Int) := Int.ofNat_le.2 h2
  rw [Int.natCast_mul, Int.natCast_add] at h3
  exact h3
theorem capP {n : Nat} (h : n ≤ 1000) : (n + 1) * 49 ≤ 1099511627776 := Nat.le_trans (Nat.mul_le_mul_right 49 (show n + 1 ≤ 1001 by omega)) (by decide)
theorem c124_ok (L : List (List Sp)) (hL : L.length ≤ 1000) (hl : L.flatten.length ≤ 1000) (d1 d2 d3 d4 d5 : D) : ∃ ρ, T.denV (evL FN) [.list (L.map fun ss => [sps ss]), d1, d2, d3, d4, d5, sps []] c124 = some (0, ρ) ∧ ρ.getD 8 D.unit = sps L.flatten := by
  have ha : allN (fun _ => true) L.length = true := allN_iff.2 fun _ _ => rfl
  simp [c124, T.denV, denL, E.den, D.den1]
  rw [iter_allN L.length (fun _ => true) (fun i => [I i, sps (L.take i).flatten]) 1 0 [] [sps L.flatten] (by simp [sps])]
  · simp [ha, denVK, T.denV, E.den]
  · intro i hi _
    have h1 := take_succ_len hi
    have h2 := take_len_le (L := L) (i + 1)
    rw [h1, List.length_append] at h2
    simp only [h1]
    generalize (L.take i).flatten = T at h2 ⊢
    simp [binD, hi, idx_nat hi, partD, outOf, denL, E.den, sps, wrapN (show i < 9223372036854775807 by omega), -List.length_flatten]
    have hc := capP (n := T.length + L[i].length) (by omega)
    rw [if_pos ⟨.inr hc, fun _ _ => rfl⟩]
    simp [denL, E.den]
  · intro _
    simp [D.den1, binD, outOf, denL, E.den]
theorem denV_op {Fs : FuncId → List D → Option D} {ρ : List D} {p : Prim} {xs : List E} {k : T} {d : D} (h : D.den1 p (denL ρ xs) = some d) : T.denV Fs ρ (.op p xs k) = T.denV Fs (ρ ++ [d]) k := by rw [T.denV, h]
theorem denV_ite {Fs : FuncId → List D → Option D} {ρ : List D} {c : E} {a b : T} {v : Bool} (h : c.den ρ = .bool v) : T.denV Fs ρ (.ite c a b) = T.denV Fs ρ (if v then a else b) := by rw [T.denV, h]; cases v <;> rfl
theorem x124 (n : Nat) (hn : n ≤ 1000) : D.den1 (.appZ 6 48 [.int .i64 0, .int .i64 0, .int .i64 0, .int .i64 0, .int .i64 0, .int .i64 0]) [I n] = some (.list (List.replicate n [.int .i64 0, .int .i64 0, .int .i64 0, .int .i64 0, .int .i64 0, .int .i64 0])) := by
  simp only [D.den1]
  rw [if_pos ⟨by omega, cap49 hn, rfl⟩, Int.toNat_natCast]
theorem z124 (n : Nat) : D.den1 (.sl 6 false true) [.list (List.replicate n [.int .i64 0, .int .i64 0, .int .i64 0, .int .i64 0, .int .i64 0, .int .i64 0]), I 0] = some (.list []) := by
  simp [D.den1, D.upto]
abbrev z6 : List D := [.int .i64 0, .int .i64 0, .int .i64 0, .int .i64 0, .int .i64 0, .int .i64 0]
theorem b124_no (n : Nat) (d0 d1 d2 d3 : D) : outOf [([E.v 7], 0), ([E.c (.list [])], 0)] (T.denV (evL FN) [d0, d1, d2, d3, I n, .bool false] b124) = some (0, [D.list []]) := by
  rw [b124, denV_ite (v := false) rfl, if_neg (by decide), T.denV]; rfl
theorem b124_yes (n : Nat) (hn : n ≤ 1000) (d0 d1 d2 d3 : D) : outOf [([E.v 7], 0), ([E.c (.list [])], 0)] (T.denV (evL FN) [d0, d1, d2, d3, I n, .bool true] b124) = some (0, [D.list []]) := by
  have e1 : D.den1 (.appZ 6 48 z6) (denL [d0, d1, d2, d3, I n, .bool true] [.v 4]) = some (.list (List.replicate n z6)) := by
    rw [show denL [d0, d1, d2, d3, I n, .bool true] [.v 4] = [I n] from rfl]; exact x124 n hn
  have e2 : D.den1 (.sl 6 false true) (denL ([d0, d1, d2, d3, I n, .bool true] ++ [.list (List.replicate n z6)]) [.v 6, .c (.int .i64 (0))]) = some (.list []) := by
    rw [show denL ([d0, d1, d2, d3, I n, .bool true] ++ [.list (List.replicate n z6)]) [.v 6, .c (.int .i64 (0))] = [.list (List.replicate n z6), I 0] from rfl]; exact z124 n
  rw [b124, denV_ite (v := true) rfl, if_pos rfl, denV_op e1, denV_op e2, T.denV]; rfl
theorem b124_ok (n : Nat) (hn : n ≤ 1000) (d0 d1 d2 d3 : D) (b : Bool) : outOf [([E.v 7], 0), ([E.c (.list [])], 0)] (T.denV (evL FN) [d0, d1, d2, d3, I n, .bool b] b124) = some (0, [D.list []]) := by
  cases b
  · exact b124_no n d0 d1 d2 d3
  · exact b124_yes n hn d0 d1 d2 d3
theorem a124_ok (L : List (List Sp)) (hL : L.length ≤ 1000) (hl : L.flatten.length ≤ 1000) (d1 : D) : ∃ ρ, T.denV (evL FN) [.list (L.map fun ss => [sps ss]), d1, I L.flatten.length] a124 = some (0, ρ) ∧ ρ.getD 8 D.unit = sps L.flatten := by
  generalize hn : L.flatten.length = n at hl
  have n2 : ¬ ((n : Int) < 0) := by omega
  have w2 : IntKind.i64.wrap ((n : Int) - 0) = n := by rw [wI (by omega)]; omega
  have hb := b124_ok n hl (.list (L.map fun ss => [sps ss])) d1 (I n) (.bool false) (decide ((n : Int) > 0))
  obtain ⟨ρ, h1, h2⟩ := c124_ok L hL (by omega) d1 (I n) (.bool false) (I n) (.bool (decide ((n : Int) > 0)))
  refine ⟨ρ, ?_, h2⟩
  have h1 : T.denV (evL FN) [.list (L.map fun ss => [sps ss]), d1, I n, .bool false, I n, .bool (decide ((n : Int) > 0)), .list []] c124 = some (0, ρ) := h1
  rw [a124, T.denV]
  simp only [denL, E.den, List.getD_cons_succ, List.getD_cons_zero, D.den1, binD, if_true, n2, decide_false, List.cons_append, List.nil_append]
  rw [T.denV]
  simp only [E.den, List.getD_cons_succ, List.getD_cons_zero, Bool.false_eq_true, if_false]
  rw [T.denV]
  simp only [denL, E.den, List.getD_cons_succ, List.getD_cons_zero, D.den1, binD, if_true, w2, List.cons_append, List.nil_append]
  rw [T.denV]
  simp only [denL, E.den, List.getD_cons_succ, List.getD_cons_zero, D.den1, binD, if_true, List.cons_append, List.nil_append]
  rw [T.denV, hb]
  simp only [List.cons_append, List.nil_append, denVK]
  exact h1
theorem e140 (L : List (List Sp)) (hL : L.length ≤ 1000) (hl : L.flatten.length ≤ 1000) : evL FN 140 [.list (L.map fun ss => [sps ss])] = some (sps L.flatten) := by
  refine evL_of (F := F140) rfl ?_
  rw [F140_eq]
  have ha : allN (fun _ => true) L.length = true := allN_iff.2 fun _ _ => rfl
  obtain ⟨ρ, g1, g2⟩ := a124_ok L hL hl (I L.length)
  simp [Fn.denV, fits, T.denV, denL, E.den, D.den1]
  rw [iter_allN L.length (fun _ => true) (fun i => [I ((L.take i).flatten.length : Int), I i]) 1 0 [] [I (L.flatten.length : Int)] (by simp)]
  rotate_left
  · intro i hi _
    have h1 := take_succ_len hi
    have h2 := take_len_le (L := L) (i + 1)
    rw [h1, List.length_append] at h2
    have w1 : IntKind.i64.wrap (((L.take i).flatten.length : Int) + L[i].length) = ((L.take i).flatten.length : Int) + L[i].length := wI (by omega)
    have n1 : ¬ (((L.take i).flatten.length : Int) + L[i].length < 0) := by omega
    simp only [h1, List.length_append]
    generalize (L.take i).flatten.length = t at *
    simp [binD, hi, idx_nat hi, partD, sps, w1, n1, outOf, denL, E.den, wrapN (show i < 9223372036854775807 by omega)]
  · intro _
    simp [binD, outOf, denL, E.den]
  rw [if_pos ha]
  simp only [denVK, List.cons_append, List.nil_append]
  rw [g1]
  simpa [E.den] using g2
theorem e140_two (ss : List Sp) (s : Sp) (hl : ss.length ≤ 900) : evL FN 140 [.list [[sps ss], [sps [s]]]] = some (sps (ss ++ [s])) := by
  have := e140 [ss, [s]] (by simp) (by simp; omega)
  simpa using this
theorem e79 (ss : List Sp) (s : Sp) (hl : ss.length ≤ 900) : evL FN 79 [sps ss, .node s.d] = some (sps (ss ++ [s])) := by
  refine evL_of (F := F79) rfl ?_
  have h := e140_two ss s hl
  simp only [sps, List.map_cons, List.map_nil, Sp.d, List.map_append, I] at h ⊢
  simp [F79, Fn.denV, fits, T.denV, denL, E.den, D.cells, D.den1, fillD, h, D.shal, D.shal1, D.shal0, Sp.d]
/-- The other end of a leg. -/
def acr (l : Lg) (w : Int) : Option Int := if w = l.a then some l.b else if w = l.b then some l.a else none
def acrD : Option Int → D
  | some o => .node [I o, .bool true]
  | none => .node [I 0, .bool false]
theorem e138 (l : Lg) (w : Int) : evL FN 138 [.node l.d, I w] = some (acrD (acr l w)) := by
  refine evL_of (F := F138) rfl ?_
  unfold acr
  by_cases h1 : w = l.a
  · simp [F138, Fn.denV, fits, T.denV, denL, E.den, D.cells, Lg.d, gts, D.den1, binD, h1, outOf, denVK, acrD]
  by_cases h2 : w = l.b
  · subst h2
    simp [F138, Fn.denV, fits, T.denV, denL, E.den, D.cells, Lg.d, gts, D.den1, binD, h1, outOf, denVK, acrD]
  · simp [F138, Fn.denV, fits, T.denV, denL, E.den, D.cells, Lg.d, gts, D.den1, binD, h1, h2, outOf, denVK, acrD]
/-- Where one is behind a leg, if one can take it. -/
def stepW (ls : List Lg) (w k : Int) : Option Int := if inR k 0 (ls.length - 1) then (ls[k.toNat]?).bind (acr · w) else none
def wAt (ls : List Lg) (w0 : Int) (ks : List Int) : Nat → Int
  | 0 => w0
  | n + 1 => ((ks[n]?).bind (stepW ls (wAt ls w0 ks n))).getD 0
def okW (ls : List Lg) (w0 : Int) (ks : List Int) (i : Nat) : Bool := ((ks[i]?).bind (stepW ls (wAt ls w0 ks i))).isSome
def brkD (ls : List Lg) (w0 : Int) (ks : List Int) : D := match firstN (okW ls w0 ks) ks.length 0 with
  | some i => .node [I i, .bool true]
  | none => .node [I 0, .bool false]
def ints (ks : List Int) : D := .list (ks.map fun n => [I n])
theorem e77 (ws : List Wl) (ls : List Lg) (pl ph w a b : Int) (ks : List Int) (hl : ls.length ≤ 9223372036854775807) (hk : ks.length ≤ 24) :
    evL FN 77 [.node (carD ws ls pl ph w a b), ints ks] = some (brkD ls w ks) := by
  refine evL_of (F := F77) rfl ?_
  simp [F77, Fn.denV, fits, T.denV, denL, E.den, D.cells, carD, ints, wls, lgs, D.den1]
  rw [iter_nat ks.length (okW ls w ks) (fun i => [I (wAt ls w ks i), I i]) 0 1 (fun i => [I i]) [] (by simp [wAt])]
  · unfold brkD
    cases firstN (okW ls w ks) ks.length 0 <;> simp [denVK, T.denV, E.den, denL, I]
  · intro i hi _
    have h66 := e83 ks[i] ls hl
    have hs : wAt ls w ks (i + 1) = (stepW ls (wAt ls w ks i) ks[i]).getD 0 := by simp [wAt, List.getElem?_eq_getElem hi]
    have ho : okW ls w ks i = (stepW ls (wAt ls w ks i) ks[i]).isSome := by simp [okW, List.getElem?_eq_getElem hi]
    simp only [lgs, I] at h66
    rw [ho, hs]
    generalize wAt ls w ks i = x
    cases hr : inR ks[i] 0 (ls.length - 1) <;> rw [hr] at h66
    · simp [hi, idx_nat hi, partD, h66, unD, outOf, denL, E.den, binD, denVK, T.denV, D.den1, stepW, hr]
    · obtain ⟨r1, r2⟩ := inR_iff.1 hr
      obtain ⟨k, hk'⟩ := Int.eq_ofNat_of_zero_le r1
      have hkl : k < ls.length := by omega
      have h122 := e138 ls[k] x
      have hst : stepW ls x ks[i] = acr ls[k] x := by rw [hk'] at hr ⊢; simp [stepW, hr, List.getElem?_eq_getElem hkl]
      rw [hst]
      rw [hk'] at h66
      simp only [Lg.d, gts, I] at h122
      simp [hi, idx_nat hi, partD, hk', h66, unD, binD, D.den1, hkl, idx_nat hkl, Lg.d, gts, E.den, denL, T.denV, D.cells, h122, I]
      cases acr ls[k] x <;> simp [acrD, D.cells, outOf, denL, E.den, denVK, T.denV, D.den1, binD, wrapN (show i < 9223372036854775807 by omega), I]
  · intro _
    simp [binD, outOf, denL]
theorem e143o (a : Int) : evL FN 143 [.list [[I a]]] = some (I (min 100001 a)) := by
  refine evL_of (F := F143) rfl ?_
  have w1 : IntKind.i64.wrap 1 = 1 := by decide
  simp [F143, Fn.denV, fits, T.denV, denL, E.den, D.den1]
  rw [iterL_eq]
  simp [D.den1, binD, D.idx, partD, mxLD, mxD, minC, outOf, denL, E.den, w1]
  rw [iterL_eq]
  simp [D.den1, binD, D.idx, partD, mxLD, mxD, minC, outOf, denL, E.den, denVK, T.denV, w1]
def arr (x d : Int) : Int := min 100001 (IntKind.i64.wrap (x + d))
theorem e139 (ws : List Wl) (ls : List Lg) (pl ph w a b : Int) (k : Nat) (hk : k < ls.length) (h1 : pl ≠ 0) (h2 : ph ≠ 0) (x y : Int) :
    evL FN 139 [.node (carD ws ls pl ph w a b), I k, .node [I x, I y]] = some (.node [I (arr x (dvd' ls[k].lo ph)), I (arr y (dvd' ls[k].hi pl))]) := by
  refine evL_of (F := F139) rfl ?_
  have h67 := e88 ws ls pl ph w a b k hk h1 h2
  have ha := e143o (IntKind.i64.wrap (x + dvd' ls[k].lo ph))
  have hb := e143o (IntKind.i64.wrap (y + dvd' ls[k].hi pl))
  simp only [carD, wls, lgs, I] at h67 ha hb ⊢
  simp [F139, Fn.denV, fits, T.denV, denL, E.den, D.cells, h67, D.den1, binD, fillD, ha, hb, arr, D.flat, D.flat0]
/-- The stop of a leg. -/
def stop (l : Lg) (k w a b pl ph : Int) : Sp where
  leg := k
  well := (acr l w).getD 0
  ll := firstG (condM a (dvd' l.lo ph)) (valM a) l.gs l.gs.length
  lh := firstG (condC b (dvd' l.hi pl)) (valC b) l.gs l.gs.length
  al := arr (firstG (condM a (dvd' l.lo ph)) (valM a) l.gs l.gs.length) (dvd' l.lo ph)
  ah := arr (firstG (condC b (dvd' l.hi pl)) (valC b) l.gs l.gs.length) (dvd' l.hi pl)
def leB (x : Int) : Bool := decide (x ≤ 100000)
theorem acrD_0 (o : Option Int) : (acrD o) = .node [I (o.getD 0), .bool o.isSome] := by cases o <;> rfl
theorem e78 (ws : List Wl) (ls : List Lg) (pl ph w a b : Int) (k : Nat) (hk : k < ls.length) (n : Int) (hlg : ls[k].ok n = true) (hp : inS pl ph 1 100000 = true) (ha : 0 ≤ a ∧ a ≤ 100001) (hb : 0 ≤ b ∧ b ≤ 100001) :
    evL FN 78 [.node (carD ws ls pl ph w a b), I k] = some (.node [.node (stop ls[k] k w a b pl ph).d, .bool (leB (stop ls[k] k w a b pl ph).ah)]) := by
  refine evL_of (F := F78) rfl ?_
  obtain ⟨p1, p2, p3⟩ := pace_pos hp
  have h122 := e138 ls[k] w
  rw [acrD_0] at h122
  have h73 := e85 ws ls pl ph w a b a b k hk n hlg hp ha hb
  unfold leaveE at h73
  simp only [List.getElem?_eq_getElem hk] at h73
  have h123 := e139 ws ls pl ph w a b k hk (by omega) (by omega) (stop ls[k] k w a b pl ph).ll (stop ls[k] k w a b pl ph).lh
  have h68 := e87
  simp only [stop] at h123 ⊢
  generalize firstG (condM a (dvd' ls[k].lo ph)) (valM a) ls[k].gs ls[k].gs.length = x1 at *
  generalize firstG (condC b (dvd' ls[k].hi pl)) (valC b) ls[k].gs ls[k].gs.length = x2 at *
  generalize arr x1 (dvd' ls[k].lo ph) = y1 at *
  generalize arr x2 (dvd' ls[k].hi pl) = y2 at *
  simp only [carD, wls, lgs, Lg.d, gts, I] at h122 h73 h123 h68 ⊢
  simp [F78, Fn.denV, fits, T.denV, denL, E.den, D.cells, D.den1, binD, D.idx, hk, Lg.d, gts, partD, h122, h73, h123, h68, Sp.d, leB]
theorem e80 (ws : List Wl) (ls : List Lg) (pl ph w a b : Int) (s : Sp) : evL FN 80 [.node (carD ws ls pl ph w a b), .node s.d] = some (.node (carD ws ls pl ph s.well s.al s.ah)) := by
  refine evL_of (F := F80) rfl ?_
  simp [F80, Fn.denV, fits, T.denV, denL, E.den, D.cells, carD, Sp.d, wls, lgs]
def workE (ws : List Wl) (ls : List Lg) (w day pl ph : Int) : Int := if askE ws ls pl ph = 0 then (if inR w 0 (ws.length - 1) && inR day 0 100000 then 0 else 2) else askE ws ls pl ph
theorem e76 (ws : List Wl) (ls : List Lg) (w day pl ph : Int) (hw : ws.length ≤ 9223372036854775807) (hl : ls.length ≤ 9223372036854775807) (hb : big ls) :
    evL FN 76 [landD ws ls, I w, I day, .node [I pl, I ph]] = some (.node [.node (if workE ws ls w day pl ph = 0 then carD ws ls pl ph w day day else carD [] [] 0 0 0 0 0), I (workE ws ls w day pl ph)]) := by
  refine evL_of (F := F76) rfl ?_
  have h65 := e82 ws ls pl ph hw hl hb
  have h94 := e131 w ws hw
  have h72 := e84 day
  have h74 := e86 day
  unfold workE
  by_cases he : askE ws ls pl ph = 0
  · rw [if_pos he] at h65 ⊢
    rw [he] at h65
    cases hr : inR w 0 (ws.length - 1) <;> rw [hr] at h94
    · simp only [landD, wls, lgs, carD, I] at h65 h94 ⊢
      simp [F76, Fn.denV, fits, T.denV, denL, E.den, D.cells, D.den1, binD, unD, h65, h94, outOf, denVK, wls, lgs]
    cases hr2 : inR day 0 100000 <;> rw [hr2] at h72 <;>
    · simp only [landD, wls, lgs, carD, I] at h65 h94 h72 h74 ⊢
      simp [F76, Fn.denV, fits, T.denV, denL, E.den, D.cells, D.den1, binD, unD, h65, h94, h72, h74, outOf, denVK, wls, lgs]
  · rw [if_neg he] at h65 ⊢
    simp only [landD, wls, lgs, carD, I] at h65 ⊢
    simp [F76, Fn.denV, fits, T.denV, denL, E.den, D.cells, D.den1, binD, unD, h65, he, carD, wls, lgs]
structure Wst where
  ss : List Sp
  w : Int
  a : Int
  b : Int
def nxt (ls : List Lg) (pl ph : Int) (ks : List Int) (i : Nat) (s : Wst) : Sp := stop ((ls[(ks.getD i 0).toNat]?).getD ⟨0, 0, 0, 0, []⟩) (ks.getD i 0) s.w s.a s.b pl ph
def wst (ls : List Lg) (pl ph : Int) (ks : List Int) (w0 day : Int) : Nat → Wst
  | 0 => ⟨[], w0, day, day⟩
  | n + 1 => ⟨(wst ls pl ph ks w0 day n).ss ++ [nxt ls pl ph ks n (wst ls pl ph ks w0 day n)], (nxt ls pl ph ks n (wst ls pl ph ks w0 day n)).well, (nxt ls pl ph ks n (wst ls pl ph ks w0 day n)).al, (nxt ls pl ph ks n (wst ls pl ph ks w0 day n)).ah⟩
def wok (ls : List Lg) (pl ph : Int) (ks : List Int) (w0 day : Int) (i : Nat) : Bool := leB (nxt ls pl ph ks i (wst ls pl ph ks w0 day i)).ah
theorem firstG_bd {cond : Gt → Bool} {val : Gt → Int} {gs : List Gt} {n : Nat} (h : ∀ g ∈ gs, 0 ≤ val g ∧ val g ≤ 100001) : 0 ≤ firstG cond val gs n ∧ firstG cond val gs n ≤ 100001 := by
  unfold firstG
  split
  · rename_i i _
    cases hg : gs[i]? with
    | none => simp
    | some g => exact h g (List.mem_of_getElem? hg)
  · omega
theorem gs_val {gs : List Gt} (h : gok gs = true) {day : Int} (hd : 0 ≤ day ∧ day ≤ 100001) : (∀ g ∈ gs, 0 ≤ valM day g ∧ valM day g ≤ 100001) ∧ (∀ g ∈ gs, 0 ≤ valC day g ∧ valC day g ≤ 100001) := by
  refine ⟨fun g hg => ?_, fun g hg => ?_⟩ <;>
  · obtain ⟨j, hj, rfl⟩ := List.getElem_of_mem hg
    have := (gok_at h hj).1
    have a1 := this.a; have a2 := this.b; have a3 := this.c
    simp only [valM, valC]; omega
theorem arr_bd {x d : Int} (hx : 0 ≤ x ∧ x ≤ 100001) (hd : 1 ≤ d ∧ d ≤ 1100000) : 0 ≤ arr x d ∧ arr x d ≤ 100001 := by
  unfold arr
  rw [wI (by omega)]
  omega
theorem stop_bd {l : Lg} {n k w a b pl ph : Int} (hl : l.ok n = true) (hp : inS pl ph 1 100000 = true) (ha : 0 ≤ a ∧ a ≤ 100001) (hb : 0 ≤ b ∧ b ≤ 100001) :
    (0 ≤ (stop l k w a b pl ph).al ∧ (stop l k w a b pl ph).al ≤ 100001) ∧ (0 ≤ (stop l k w a b pl ph).ah ∧ (stop l k w a b pl ph).ah ≤ 100001) := by
  obtain ⟨p1, p2, p3⟩ := pace_pos hp
  obtain ⟨l1, l2, l3, l4, -⟩ := lg_ok hl
  have v1 := (gs_val l1 ha).1
  have v2 := (gs_val l1 hb).2
  exact ⟨arr_bd (firstG_bd v1) (dvd_bd (by omega) (by omega)), arr_bd (firstG_bd v2) (dvd_bd (by omega) (by omega))⟩
theorem dvd_le {lo hi pl ph : Int} (h1 : 1 ≤ lo) (h2 : lo ≤ hi) (h3 : hi ≤ 1000000) (h4 : 1 ≤ pl) (h5 : pl ≤ ph) (h6 : ph ≤ 100000) : dvd' lo ph ≤ dvd' hi pl := by
  rw [dvd_eq (by omega) (by omega), dvd_eq (by omega) (by omega)]
  have a1 := Int.lt_ediv_add_one_mul_self (hi + pl - 1) (show 0 < pl by omega)
  have q0 : 0 ≤ (hi + pl - 1) / pl := Int.ediv_nonneg (by omega) (by omega)
  generalize (hi + pl - 1) / pl = q at *
  have a2 : q * pl ≤ q * ph := Int.mul_le_mul_of_nonneg_left h5 q0
  have a3 : (q + 1) * pl = q * pl + pl := by rw [Int.add_mul, Int.one_mul]
  have a4 : (q + 1) * ph = q * ph + ph := by rw [Int.add_mul, Int.one_mul]
  have a5 : (lo + ph - 1) / ph < q + 1 := Int.ediv_lt_of_lt_mul (by omega) (by omega)
  omega
theorem firstG_le {gs : List Gt} (h : gok gs = true) {a b d d' : Int} (ha : 0 ≤ a ∧ a ≤ b ∧ b ≤ 100001) (hd : 1 ≤ d ∧ d ≤ d' ∧ d' ≤ 10000000) :
    firstG (condM a d) (valM a) gs gs.length ≤ firstG (condC b d') (valC b) gs gs.length := by
  have hM := firstG_bd (cond := condM a d) (n := gs.length) (gs_val h (day := a) (by omega)).1
  unfold firstG gate at hM ⊢
  cases hc : firstN (fun i => !(gs[i]?).any (condC b d')) gs.length 0 with
  | none => exact hM.2
  | some j =>
    obtain ⟨-, j2, j3, -⟩ := firstN_some hc
    have hj : j < gs.length := by omega
    simp only [List.getElem?_eq_getElem hj, Option.any_some, Bool.not_eq_false'] at j3
    have gj := (gok_at h hj).1
    have a1 := gj.a; have a2 := gj.b; have a3 := gj.c; have a4 := gj.e; have a5 := gj.f; have a6 := gj.d; have a7 := gj.g
    have hcm : condM a d gs[j] = true := by
      simp only [condC, decide_eq_true_eq] at j3
      rw [wI (x := max b gs[j].oh + d') (by omega), wI (x := max b gs[j].oh + d' - 1) (by omega)] at j3
      simp only [condM, decide_eq_true_eq]
      rw [wI (x := max a gs[j].ol + d) (by omega), wI (x := max a gs[j].ol + d - 1) (by omega)]
      omega
    cases hm : firstN (fun i => !(gs[i]?).any (condM a d)) gs.length 0 with
    | none =>
      have := firstN_none.1 hm j (by omega) (by omega)
      simp only [List.getElem?_eq_getElem hj, Option.any_some, hcm] at this
      cases this
    | some i =>
      obtain ⟨-, i2, i3, i4⟩ := firstN_some hm
      have hi : i < gs.length := by omega
      have hij : i ≤ j := by
        by_cases hlt : j < i
        · have := i4 j (by omega) hlt
          simp only [List.getElem?_eq_getElem hj, Option.any_some, hcm] at this
          cases this
        · omega
      simp only [List.getElem?_eq_getElem hj, List.getElem?_eq_getElem hi, Option.elim_some, valM, valC]
      by_cases e : i = j
      · subst e; omega
      · have := gok_lt h hi j (by omega) hj
        have := (gok_at h hi).1.g
        omega
theorem arr_le {x y d d' : Int} (hx : 0 ≤ x) (hxy : x ≤ y) (hy : y ≤ 100001) (hd : 1 ≤ d) (hdd : d ≤ d') (hd' : d' ≤ 1100000) : arr x d ≤ arr y d' := by
  unfold arr
  rw [wI (x := x + d) (by omega), wI (x := y + d') (by omega)]
  omega
theorem stop_le {l : Lg} {n k w a b pl ph : Int} (hl : l.ok n = true) (hp : inS pl ph 1 100000 = true) (ha : 0 ≤ a) (hab : a ≤ b) (hb : b ≤ 100001) : (stop l k w a b pl ph).al ≤ (stop l k w a b pl ph).ah := by
  obtain ⟨p1, p2, p3⟩ := pace_pos hp
  obtain ⟨l1, l2, l3, l4, -⟩ := lg_ok hl
  have d1 := dvd_bd (n := l.lo) (k := ph) (by omega) (by omega)
  have d2 := dvd_bd (n := l.hi) (k := pl) (by omega) (by omega)
  have d3 := dvd_le l2 l3 l4 p1 p2 p3
  have v1 := firstG_bd (cond := condM a (dvd' l.lo ph)) (n := l.gs.length) (gs_val l1 (day := a) (by omega)).1
  have v2 := firstG_bd (cond := condC b (dvd' l.hi pl)) (n := l.gs.length) (gs_val l1 (day := b) (by omega)).2
  have v3 := firstG_le l1 (d := dvd' l.lo ph) (d' := dvd' l.hi pl) ⟨ha, hab, hb⟩ (by omega)
  exact arr_le v1.1 v3 v2.2 d1.1 d3 d2.2
theorem stepW_some {ls : List Lg} {w k o : Int} (h : stepW ls w k = some o) : ∃ j : Nat, k = j ∧ ∃ hj : j < ls.length, acr ls[j] w = some o := by
  unfold stepW at h
  split at h
  · rename_i hr
    obtain ⟨r1, r2⟩ := inR_iff.1 hr
    obtain ⟨j, rfl⟩ := Int.eq_ofNat_of_zero_le r1
    have hj : j < ls.length := by omega
    refine ⟨j, rfl, hj, ?_⟩
    simpa [List.getElem?_eq_getElem hj] using h
  · cases h
theorem okW_some {ls : List Lg} {w0 : Int} {ks : List Int} {i : Nat} (hi : i < ks.length) (h : okW ls w0 ks i = true) :
    ∃ j : Nat, ks[i] = j ∧ ∃ hj : j < ls.length, acr ls[j] (wAt ls w0 ks i) = some (wAt ls w0 ks (i + 1)) := by
  simp only [okW, List.getElem?_eq_getElem hi, Option.bind_some] at h
  obtain ⟨o, ho⟩ := Option.isSome_iff_exists.1 h
  obtain ⟨j, h1, h2, h3⟩ := stepW_some ho
  refine ⟨j, h1, h2, ?_⟩
  rw [h3, wAt, List.getElem?_eq_getElem hi, Option.bind_some, ho]; rfl
theorem acr_in {l : Lg} {n w o : Int} (hl : l.ok n = true) (h : acr l w = some o) : 0 ≤ o ∧ o < n := by
  obtain ⟨-, -, -, -, -, a1, a2, a3, a4⟩ := lg_ok hl
  unfold acr at h
  split at h
  · cases h; exact ⟨a3, a4⟩
  · split at h
    · cases h; exact ⟨a1, a2⟩
    · cases h
theorem wst_ok {ws : List Wl} {ls : List Lg} {pl ph : Int} {ks : List Int} {w0 day : Int} (hL : landOK ws ls = true) (hp : inS pl ph 1 100000 = true) (hd : 0 ≤ day ∧ day ≤ 100000) (hw : 0 ≤ w0 ∧ w0 < ws.length) (hk : ∀ i, i < ks.length → okW ls w0 ks i = true) :
    ∀ i, i ≤ ks.length → (wst ls pl ph ks w0 day i).w = wAt ls w0 ks i ∧ (wst ls pl ph ks w0 day i).ss.length = i ∧ (0 ≤ (wst ls pl ph ks w0 day i).a ∧ (wst ls pl ph ks w0 day i).a ≤ 100001) ∧ (0 ≤ (wst ls pl ph ks w0 day i).b ∧ (wst ls pl ph ks w0 day i).b ≤ 100001) ∧ (∀ s ∈ (wst ls pl ph ks w0 day i).ss, 0 ≤ s.well ∧ s.well < ws.length ∧ 0 ≤ s.al ∧ s.al ≤ s.ah) ∧ (wst ls pl ph ks w0 day i).a ≤ (wst ls pl ph ks w0 day i).b
  | 0, _ => ⟨rfl, rfl, ⟨hd.1, show day ≤ 100001 by omega⟩, ⟨hd.1, show day ≤ 100001 by omega⟩, (fun s hs => by cases hs), Int.le_refl day⟩
  | n + 1, h => by
    obtain ⟨i1, i2, i3, i4, i5, i6⟩ := wst_ok hL hp hd hw hk n (by omega)
    obtain ⟨j, h1, h2, h3⟩ := okW_some (show n < ks.length by omega) (hk n (by omega))
    have hn : nxt ls pl ph ks n (wst ls pl ph ks w0 day n) = stop ls[j] j (wst ls pl ph ks w0 day n).w (wst ls pl ph ks w0 day n).a (wst ls pl ph ks w0 day n).b pl ph := by
      simp [nxt, List.getD, List.getElem?_eq_getElem (show n < ks.length by omega), h1, List.getElem?_eq_getElem h2]
    have hwl : (nxt ls pl ph ks n (wst ls pl ph ks w0 day n)).well = wAt ls w0 ks (n + 1) := by
      rw [hn]; simp only [stop]; rw [i1, h3]; rfl
    have hlg := land_leg hL h2
    have hin := acr_in hlg h3
    obtain ⟨b1, b2⟩ := stop_bd (k := j) (w := (wst ls pl ph ks w0 day n).w) hlg hp i3 i4
    have b3 := stop_le (k := j) (w := (wst ls pl ph ks w0 day n).w) hlg hp i3.1 i6 i4.2
    rw [← hn] at b1 b2 b3
    refine ⟨hwl, by simp [wst, i2], b1, b2, fun s hs => ?_, b3⟩
    simp only [wst, List.mem_append, List.mem_singleton] at hs
    rcases hs with hs | rfl
    · exact i5 s hs
    · rw [hwl]; exact ⟨hin.1, hin.2, b1.1, b3⟩
end Go.Q
