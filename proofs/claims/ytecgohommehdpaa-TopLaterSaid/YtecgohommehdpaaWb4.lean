/- Way: the first days on which one may leave, and can. -/
import Derived.Test.YtecgohommehdpaaWb3
set_option linter.unusedVariables false
set_option linter.unusedSimpArgs false
namespace Go.Q
open Go.V
theorem wI {x : Int} (h : -9223372036854775808 ≤ x ∧ x ≤ 9223372036854775807) : IntKind.i64.wrap x = x := IntWalk.i64_in _ h
theorem dvd_eq {n k : Int} (hn : 0 ≤ n ∧ n ≤ 1000000000000) (hk : 1 ≤ k ∧ k ≤ 1000000000000) : dvd' n k = (n + k - 1) / k := by
  unfold dvd'
  rw [wI (x := n + k) (by omega), wI (x := n + k - 1) (by omega), Int.tdiv_eq_ediv_of_nonneg (by omega)]
  have h1 : (n + k - 1) / k ≤ n + k - 1 := Int.ediv_le_self _ (by omega)
  have h2 : 0 ≤ (n + k - 1) / k := Int.ediv_nonneg (by omega) (by omega)
  exact wI (by omega)
theorem dvd_bd {n k : Int} (hn : 1 ≤ n ∧ n ≤ 1000000) (hk : 1 ≤ k ∧ k ≤ 100000) : 1 ≤ dvd' n k ∧ dvd' n k ≤ 1100000 := by
  rw [dvd_eq (by omega) (by omega)]
  have h1 : (n + k - 1) / k ≤ n + k - 1 := Int.ediv_le_self _ (by omega)
  have h2 : 1 ≤ (n + k - 1) / k := by rw [Int.le_ediv_iff_mul_le (by omega)]; omega
  omega
/-- What is known of a gate of a valid leg. -/
structure GtOK (g : Gt) : Prop where
  a : 0 ≤ g.ol
  b : g.ol ≤ g.oh
  c : g.oh ≤ 100000
  d : 0 ≤ g.sl
  e : g.sl ≤ g.sh
  f : g.sh ≤ 100000
  g : g.ol ≤ g.sh
theorem gok_at {gs : List Gt} (h : gok gs = true) {i : Nat} (hi : i < gs.length) : GtOK gs[i] ∧ gpv gs i < gs[i].ol := by
  simp only [gok, Bool.and_eq_true, decide_eq_true_eq] at h
  have := allN_iff.1 h.2 i hi
  simp only [gat, List.getElem?_eq_getElem hi, Option.all_some, gstep, inS, Bool.and_eq_true, decide_eq_true_eq] at this
  obtain ⟨⟨⟨⟨⟨a, b⟩, c⟩, ⟨d, e⟩, f⟩, g⟩, k⟩ := this
  exact ⟨⟨a, b, c, d, e, f, g⟩, k⟩
theorem gok_lt {gs : List Gt} (h : gok gs = true) {j : Nat} (hj : j < gs.length) : ∀ n, j < n → (hn : n < gs.length) → gs[j].sh < gs[n].ol
  | 0, h1, _ => by omega
  | n + 1, h1, hn => by
    obtain ⟨g1, g2⟩ := gok_at h hn
    rw [gpv_succ (show n < gs.length by omega)] at g2
    by_cases e : j = n
    · subst e; exact g2
    · have := gok_lt h hj n (by omega) (by omega)
      have g3 := (gok_at h (show n < gs.length by omega)).1.g
      omega
theorem firstM_succ {gs : List Gt} (h : gok gs = true) {day d : Int} (hd : 0 ≤ day ∧ day ≤ 100001) (n : Nat) (hn : n < gs.length) :
    firstG (condM day d) (valM day) gs (n + 1) = if condM day d gs[n] then min (min 100001 (firstG (condM day d) (valM day) gs n)) (valM day gs[n]) else firstG (condM day d) (valM day) gs n := by
  have hv : ∀ j, (hj : j < gs.length) → valM day gs[j] ≤ 100001 := fun j hj => by
    have := (gok_at h hj).1
    have h1 := this.b; have h2 := this.c
    unfold valM; omega
  refine firstG_succ _ _ gs n hn (fun _ => hv n hn) (fun j hj hjl _ _ => ?_) (fun j hj hjl _ => hv j hjl)
  have h1 := gok_lt h hjl n hj hn
  have h2 := (gok_at h hjl).1.g
  unfold valM; omega
theorem firstC_succ {gs : List Gt} (h : gok gs = true) {day d : Int} (hd : 0 ≤ day ∧ day ≤ 100001) (hd' : 1 ≤ d ∧ d ≤ 10000000) (n : Nat) (hn : n < gs.length) :
    firstG (condC day d) (valC day) gs (n + 1) = if condC day d gs[n] then min (min 100001 (firstG (condC day d) (valC day) gs n)) (valC day gs[n]) else firstG (condC day d) (valC day) gs n := by
  have hv : ∀ j, (hj : j < gs.length) → valC day gs[j] ≤ 100001 := fun j hj => by
    have := (gok_at h hj).1
    have h2 := this.c
    unfold valC; omega
  refine firstG_succ _ _ gs n hn (fun _ => hv n hn) (fun j hj hjl hc _ => ?_) (fun j hj hjl _ => hv j hjl)
  have h1 := gok_lt h hjl n hj hn
  have h2 := (gok_at h hjl).1
  have h3 := (gok_at h hn).1.b
  have a1 := h2.a; have a2 := h2.b; have a3 := h2.c; have a4 := h2.e
  simp only [condC, decide_eq_true_eq] at hc
  rw [wI (x := max day gs[j].oh + d) (by omega), wI (x := max day gs[j].oh + d - 1) (by omega)] at hc
  unfold valC; omega
def leaveE (ls : List Lg) (pl ph : Int) (k : Nat) (day day' : Int) : D := match ls[k]? with
  | some l => .node [I (firstG (condM day (dvd' l.lo ph)) (valM day) l.gs l.gs.length), I (firstG (condC day' (dvd' l.hi pl)) (valC day') l.gs l.gs.length)]
  | none => .node []
theorem lg_ok {n : Int} {l : Lg} (h : l.ok n = true) : gok l.gs = true ∧ 1 ≤ l.lo ∧ l.lo ≤ l.hi ∧ l.hi ≤ 1000000 ∧ l.a ≠ l.b ∧ 0 ≤ l.a ∧ l.a < n ∧ 0 ≤ l.b ∧ l.b < n := by
  simp only [Lg.ok, inR, inS, Bool.and_eq_true, decide_eq_true_eq, bne_iff_ne, ne_eq] at h
  obtain ⟨⟨⟨⟨⟨a, b⟩, c, d⟩, e⟩, ⟨f, g⟩, i⟩, j⟩ := h
  exact ⟨j, f, g, i, e, a, by omega, c, by omega⟩
theorem e73 (ws : List Wl) (ls : List Lg) (pl ph w a b day day' : Int) (k : Nat) (hk : k < ls.length) (n : Int) (hlg : ls[k].ok n = true) (hp : inS pl ph 1 100000 = true) (hd : 0 ≤ day ∧ day ≤ 100001) (hd' : 0 ≤ day' ∧ day' ≤ 100001) :
    evL FN 73 [.node (carD ws ls pl ph w a b), I k, .node [I day, I day']] = some (leaveE ls pl ph k day day') := by
  refine evL_of (F := F73) rfl ?_
  obtain ⟨p1, p2, p3⟩ := pace_pos hp
  obtain ⟨l1, l2, l3, l4, -⟩ := lg_ok hlg
  have h67 := e67 ws ls pl ph w a b k hk (by omega) (by omega)
  have h74 := e74 100001
  have hd2 := dvd_bd (n := ls[k].hi) (k := pl) (by omega) (by omega)
  have hgl : ls[k].gs.length ≤ 6 := by simp only [gok, Bool.and_eq_true, decide_eq_true_eq] at l1; exact l1.1
  unfold leaveE
  rw [List.getElem?_eq_getElem hk]
  simp only
  generalize hl : ls[k] = l at *
  have hm := fun i hi => firstM_succ l1 (d := dvd' l.lo ph) hd i hi
  have hc := fun i hi => firstC_succ l1 (d := dvd' l.hi pl) hd' (by omega) i hi
  simp only [carD, wls, lgs, I] at h67 h74 ⊢
  simp [F73, Fn.denV, fits, T.denV, denL, E.den, D.cells, h67, h74, D.den1, D.idx, hk, hl, Lg.d, gts, partD]
  rw [iter_allN l.gs.length (fun _ => true) (fun i => [I i, I (firstG (condM day (dvd' l.lo ph)) (valM day) l.gs i), I (firstG (condC day' (dvd' l.hi pl)) (valC day') l.gs i)]) 1 0 [] [I (firstG (condM day (dvd' l.lo ph)) (valM day) l.gs l.gs.length), I (firstG (condC day' (dvd' l.hi pl)) (valC day') l.gs l.gs.length)] (by simp [firstG_zero])]
  · have : allN (fun _ => true) l.gs.length = true := allN_iff.2 fun _ _ => rfl
    simp [this, denVK, T.denV, E.den, denL]
  · intro i hi _
    have h116a := e116 (firstG (condM day (dvd' l.lo ph)) (valM day) l.gs i) (max day l.gs[i].ol)
    have h116b := e116 (firstG (condC day' (dvd' l.hi pl)) (valC day') l.gs i) (max day' l.gs[i].oh)
    have hm := hm i hi
    have hc := hc i hi
    simp only [condM, valM, condC, valC] at hm hc
    simp [binD, hi, hl, idx_nat hi, Gt.d, mxLD, mxD, maxC, maxC', E.den, denL, T.denV, hm, hc, condM, condC, valM, valC, wrapN (show i < 9223372036854775807 by omega)]
    simp only [I] at h116a h116b
    by_cases c1 : IntKind.i64.wrap (IntKind.i64.wrap (max day l.gs[i].ol + dvd' l.lo ph) - 1) ≤ l.gs[i].sh <;> by_cases c2 : IntKind.i64.wrap (IntKind.i64.wrap (max day' l.gs[i].oh + dvd' l.hi pl) - 1) ≤ l.gs[i].sl <;>
      simp [c1, c2, fillD, outOf, denL, E.den, denVK, T.denV, h116a, h116b, D.flat, D.flat0, D.den1, binD, mxLD, mxD, maxC, maxC', D.cells, wrapN (show i < 9223372036854775807 by omega)]
  · intro _
    simp [D.den1, binD, outOf, denL, E.den, hl]
end Go.Q
