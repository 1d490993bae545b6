/- Stops appended (TopStage). -/
import Derived.Test.YtecgohommehdpaaRa1
set_option linter.unusedVariables false
set_option linter.unusedSimpArgs false
set_option maxRecDepth 100000
namespace Go.Q
open Go.V
/-- Stops. -/
structure Sp where
  leg : Int
  well : Int
  ll : Int
  lh : Int
  al : Int
  ah : Int
def Sp.d (s : Sp) : List D := [I s.leg, I s.well, I s.ll, I s.lh, I s.al, I s.ah]
def sps (ss : List Sp) : D := .list (ss.map Sp.d)
theorem take_succ_len {L : List (List Sp)} {i : Nat} (h : i < L.length) : (L.take (i + 1)).flatten = (L.take i).flatten ++ L[i] := by
  rw [List.take_add_one, List.getElem?_eq_getElem h, List.flatten_append]; simp
theorem take_len_le {L : List (List Sp)} (i : Nat) : (L.take i).flatten.length ≤ L.flatten.length := by
  have : L.flatten = (L.take i).flatten ++ (L.drop i).flatten := by rw [← List.flatten_append, List.take_append_drop]
  rw [this, List.length_append]; omega
/-- The tree in three parts: how long all is; room; what is appended. -/
def c124 : T := .op .len [.v 0] <|
   .loop [.c (.int .i64 (0)), .v 6] (
    .op (.bin .lss) [.v 8, .v 7] <|
    .ite (.v 10) (.op (.idx 1) [.v 0, .v 8] <|
     .op (.elem 0 none) [.v 0, .v 8] <|
     .op (.app 6 48) [.v 9, .v 12] <|
     .op (.bin .add) [.v 8, .c (.int .i64 (1))] <|
     .leaf 0) <|
    .leaf 1) [([.v 14, .v 13], none), ([.v 9], some 0)] [.leaf 0]
def b124 : T := .ite (.v 5) (.op (.appZ 6 48 [.int .i64 (0), .int .i64 (0), .int .i64 (0), .int .i64 (0), .int .i64 (0), .int .i64 (0)]) [.v 4] <|
    .op (.sl 6 false true) [.v 6, .c (.int .i64 (0))] <|
    .leaf 0) <|
   .leaf 1
def a124 : T := .op (.bin .lss) [.v 2, .c (.int .i64 (0))] <|
  .ite (.v 3) (.fail) <|
  .op (.bin .sub) [.v 2, .c (.int .i64 (0))] <|
  .op (.bin .gtr) [.v 4, .c (.int .i64 (0))] <|
  .blk b124 [([.v 7], 0), ([.c (.list [])], 0)] [c124]
theorem F124_eq : F124 = ⟨[none], .op .len [.v 0] <|
 .loop [.c (.int .i64 (0)), .c (.int .i64 (0))] (
  .op (.bin .lss) [.v 3, .v 1] <|
  .ite (.v 4) (.op (.idx 1) [.v 0, .v 3] <|
   .op (.elem 0 none) [.v 0, .v 3] <|
   .op .len [.v 6] <|
   .op (.bin .add) [.v 2, .v 7] <|
   .op (.bin .lss) [.v 8, .c (.int .i64 (0))] <|
   .ite (.v 9) (.fail) <|
   .op (.bin .add) [.v 3, .c (.int .i64 (1))] <|
   .leaf 0) <|
  .leaf 1) [([.v 8, .v 10], none), ([.v 2], some 0)] [a124], [.v 8], .own 6⟩ := rfl
theorem cap49 {n : Nat} (h : n ≤ 1000) : ((n : Int) + 1) * (((48 : Nat) : Int) + 1) ≤ 1099511627776 := by
  have h1 : (n + 1) * 49 ≤ 1001 * 49 := Nat.mul_le_mul_right 49 (by omega)
  have h2 : (n + 1) * 49 ≤ 1099511627776 := Nat.le_trans h1 (by decide)
  have h3 : (((n + 1) * 49 : Nat) : Int) ≤ ((1099511627776 : Nat) : Int) := Int.ofNat_le.2 h2
  rw [Int.natCast_mul, Int.natCast_add] at h3
  exact h3
theorem capP {n : Nat} (h : n ≤ 1000) : (n + 1) * 49 ≤ 1099511627776 := Nat.le_trans (Nat.mul_le_mul_right 49 (show n + 1 ≤ 1001 by omega)) (by decide)
theorem c124_ok (L : List (List Sp)) (hL : L.length ≤ 1000) (hl : L.flatten.length ≤ 1000) (d1 d2 d3 d4 d5 : D) : ∃ ρ, T.denV (evL FN) [.list (L.map fun ss => [sps ss]), d1, d2, d3, d4, d5, sps []] c124 = some (0, ρ) ∧ ρ.getD 8 D.unit = sps L.flatten := by
  have ha : allN (fun _ => true) L.length = true := allN_iff.2 fun _ _ => rfl
  simp [c124, T.denV, denL, E.den, D.den1]
  rw [iter_allN L.length (fun _ => true) (fun i => [I i, sps (L.take i).flatten]) 1 0 [] [sps L.flatten] (by simp [sps])]
  · simp [ha, denVK, T.denV, E.den]
  · intro i hi _
    have h1 := take_succ_len hi
    have h2 := take_len_le (L := L) (i + 1)
    rw [h1, List.length_append] at h2
    simp only [h1]
    generalize (L.take i).flatten = T at h2 ⊢
    simp [binD, hi, idx_nat hi, partD, outOf, denL, E.den, sps, wrapN (show i < 9223372036854775807 by omega), -List.length_flatten]
    have hc := capP (n := T.length + L[i].length) (by omega)
    rw [if_pos ⟨.inr hc, fun _ _ => rfl⟩]
    simp [denL, E.den]
  · intro _
    simp [D.den1, binD, outOf, denL, E.den]
theorem denV_op {Fs : FuncId → List D → Option D} {ρ : List D} {p : Prim} {xs : List E} {k : T} {d : D} (h : D.den1 p (denL ρ xs) = some d) : T.denV Fs ρ (.op p xs k) = T.denV Fs (ρ ++ [d]) k := by rw [T.denV, h]
theorem denV_ite {Fs : FuncId → List D → Option D} {ρ : List D} {c : E} {a b : T} {v : Bool} (h : c.den ρ = .bool v) : T.denV Fs ρ (.ite c a b) = T.denV Fs ρ (if v then a else b) := by rw [T.denV, h]; cases v <;> rfl
theorem x124 (n : Nat) (hn : n ≤ 1000) : D.den1 (.appZ 6 48 [.int .i64 0, .int .i64 0, .int .i64 0, .int .i64 0, .int .i64 0, .int .i64 0]) [I n] = some (.list (List.replicate n [.int .i64 0, .int .i64 0, .int .i64 0, .int .i64 0, .int .i64 0, .int .i64 0])) := by
  simp only [D.den1]
  rw [if_pos ⟨by omega, cap49 hn, rfl⟩, Int.toNat_natCast]
theorem z124 (n : Nat) : D.den1 (.sl 6 false true) [.list (List.replicate n [.int .i64 0, .int .i64 0, .int .i64 0, .int .i64 0, .int .i64 0, .int .i64 0]), I 0] = some (.list []) := by
  simp [D.den1, D.upto]
abbrev z6 : List D := [.int .i64 0, .int .i64 0, .int .i64 0, .int .i64 0, .int .i64 0, .int .i64 0]
theorem b124_no (n : Nat) (d0 d1 d2 d3 : D) : outOf [([E.v 7], 0), ([E.c (.list [])], 0)] (T.denV (evL FN) [d0, d1, d2, d3, I n, .bool false] b124) = some (0, [D.list []]) := by
  rw [b124, denV_ite (v := false) rfl, if_neg (by decide), T.denV]; rfl
theorem b124_yes (n : Nat) (hn : n ≤ 1000) (d0 d1 d2 d3 : D) : outOf [([E.v 7], 0), ([E.c (.list [])], 0)] (T.denV (evL FN) [d0, d1, d2, d3, I n, .bool true] b124) = some (0, [D.list []]) := by
  have e1 : D.den1 (.appZ 6 48 z6) (denL [d0, d1, d2, d3, I n, .bool true] [.v 4]) = some (.list (List.replicate n z6)) := by
    rw [show denL [d0, d1, d2, d3, I n, .bool true] [.v 4] = [I n] from rfl]; exact x124 n hn
  have e2 : D.den1 (.sl 6 false true) (denL ([d0, d1, d2, d3, I n, .bool true] ++ [.list (List.replicate n z6)]) [.v 6, .c (.int .i64 (0))]) = some (.list []) := by
    rw [show denL ([d0, d1, d2, d3, I n, .bool true] ++ [.list (List.replicate n z6)]) [.v 6, .c (.int .i64 (0))] = [.list (List.replicate n z6), I 0] from rfl]; exact z124 n
  rw [b124, denV_ite (v := true) rfl, if_pos rfl, denV_op e1, denV_op e2, T.denV]; rfl
theorem b124_ok (n : Nat) (hn : n ≤ 1000) (d0 d1 d2 d3 : D) (b : Bool) : outOf [([E.v 7], 0), ([E.c (.list [])], 0)] (T.denV (evL FN) [d0, d1, d2, d3, I n, .bool b] b124) = some (0, [D.list []]) := by
  cases b
  · exact b124_no n d0 d1 d2 d3
  · exact b124_yes n hn d0 d1 d2 d3
theorem a124_ok (L : List (List Sp)) (hL : L.length ≤ 1000) (hl : L.flatten.length ≤ 1000) (d1 : D) : ∃ ρ, T.denV (evL FN) [.list (L.map fun ss => [sps ss]), d1, I L.flatten.length] a124 = some (0, ρ) ∧ ρ.getD 8 D.unit = sps L.flatten := by
  generalize hn : L.flatten.length = n at hl
  have n2 : ¬ ((n : Int) < 0) := by omega
  have w2 : IntKind.i64.wrap ((n : Int) - 0) = n := by rw [wI (by omega)]; omega
  have hb := b124_ok n hl (.list (L.map fun ss => [sps ss])) d1 (I n) (.bool false) (decide ((n : Int) > 0))
  obtain ⟨ρ, h1, h2⟩ := c124_ok L hL (by omega) d1 (I n) (.bool false) (I n) (.bool (decide ((n : Int) > 0)))
  refine ⟨ρ, ?_, h2⟩
  have h1 : T.denV (evL FN) [.list (L.map fun ss => [sps ss]), d1, I n, .bool false, I n, .bool (decide ((n : Int) > 0)), .list []] c124 = some (0, ρ) := h1
  rw [a124, T.denV]
  simp only [denL, E.den, List.getD_cons_succ, List.getD_cons_zero, D.den1, binD, if_true, n2, decide_false, List.cons_append, List.nil_append]
  rw [T.denV]
  simp only [E.den, List.getD_cons_succ, List.getD_cons_zero, Bool.false_eq_true, if_false]
  rw [T.denV]
  simp only [denL, E.den, List.getD_cons_succ, List.getD_cons_zero, D.den1, binD, if_true, w2, List.cons_append, List.nil_append]
  rw [T.denV]
  simp only [denL, E.den, List.getD_cons_succ, List.getD_cons_zero, D.den1, binD, if_true, List.cons_append, List.nil_append]
  rw [T.denV, hb]
  simp only [List.cons_append, List.nil_append, denVK]
  exact h1
theorem e124 (L : List (List Sp)) (hL : L.length ≤ 1000) (hl : L.flatten.length ≤ 1000) : evL FN 124 [.list (L.map fun ss => [sps ss])] = some (sps L.flatten) := by
  refine evL_of (F := F124) rfl ?_
  rw [F124_eq]
  have ha : allN (fun _ => true) L.length = true := allN_iff.2 fun _ _ => rfl
  obtain ⟨ρ, g1, g2⟩ := a124_ok L hL hl (I L.length)
  simp [Fn.denV, fits, T.denV, denL, E.den, D.den1]
  rw [iter_allN L.length (fun _ => true) (fun i => [I ((L.take i).flatten.length : Int), I i]) 1 0 [] [I (L.flatten.length : Int)] (by simp)]
  rotate_left
  · intro i hi _
    have h1 := take_succ_len hi
    have h2 := take_len_le (L := L) (i + 1)
    rw [h1, List.length_append] at h2
    have w1 : IntKind.i64.wrap (((L.take i).flatten.length : Int) + L[i].length) = ((L.take i).flatten.length : Int) + L[i].length := wI (by omega)
    have n1 : ¬ (((L.take i).flatten.length : Int) + L[i].length < 0) := by omega
    simp only [h1, List.length_append]
    generalize (L.take i).flatten.length = t at *
    simp [binD, hi, idx_nat hi, partD, sps, w1, n1, outOf, denL, E.den, wrapN (show i < 9223372036854775807 by omega)]
  · intro _
    simp [binD, outOf, denL, E.den]
  rw [if_pos ha]
  simp only [denVK, List.cons_append, List.nil_append]
  rw [g1]
  simpa [E.den] using g2
theorem e124_two (ss : List Sp) (s : Sp) (hl : ss.length ≤ 900) : evL FN 124 [.list [[sps ss], [sps [s]]]] = some (sps (ss ++ [s])) := by
  have := e124 [ss, [s]] (by simp) (by simp; omega)
  simpa using this
theorem e92 (ss : List Sp) (s : Sp) (hl : ss.length ≤ 900) : evL FN 92 [sps ss, .node s.d] = some (sps (ss ++ [s])) := by
  refine evL_of (F := F92) rfl ?_
  have h := e124_two ss s hl
  simp only [sps, List.map_cons, List.map_nil, Sp.d, List.map_append, I] at h ⊢
  simp [F92, Fn.denV, fits, T.denV, denL, E.den, D.cells, D.den1, fillD, h, D.shal, D.shal1, D.shal0, Sp.d]
end Go.Q
