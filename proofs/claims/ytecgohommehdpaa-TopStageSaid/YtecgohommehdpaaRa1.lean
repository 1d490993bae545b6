/- Gates, ways (TopStage). -/
import Derived.Test.YtecgohommehdpaaRa0
set_option linter.unusedVariables false
set_option linter.unusedSimpArgs false
set_option maxRecDepth 100000
namespace Go.Q
open Go.V
theorem minC (a b : Int) : (if b < a then b else a) = min a b := by rw [Int.min_def]; split <;> split <;> omega
theorem maxC (a b : Int) : (if b > a then b else a) = max a b := by rw [Int.max_def]; split <;> split <;> omega
theorem maxC' (a b : Int) : (if a < b then b else a) = max a b := by rw [Int.max_def]; split <;> split <;> omega
/-- The first gate of a kind: what it gives. -/
def gate (cond : Gt → Bool) (gs : List Gt) (n : Nat) : Option Nat := firstN (fun i => !(gs[i]?).any cond) n 0
def firstG (cond : Gt → Bool) (val : Gt → Int) (gs : List Gt) (n : Nat) : Int := match gate cond gs n with
  | some i => (gs[i]?).elim 0 val
  | none => 100001
def condM (day d : Int) (g : Gt) : Bool := decide (IntKind.i64.wrap (IntKind.i64.wrap (max day g.ol + d) - 1) ≤ g.sh)
def condC (day d : Int) (g : Gt) : Bool := decide (IntKind.i64.wrap (IntKind.i64.wrap (max day g.oh + d) - 1) ≤ g.sl)
def valM (day : Int) (g : Gt) : Int := max day g.ol
def valC (day : Int) (g : Gt) : Int := max day g.oh
theorem e116 (a b : Int) : evL FN 116 [.list [[I a], [I b]]] = some (I (min (min 100001 a) b)) := by
  refine evL_of (F := F116) rfl ?_
  have w1 : IntKind.i64.wrap 1 = 1 := by decide
  have w2 : IntKind.i64.wrap 2 = 2 := by decide
  simp [F116, Fn.denV, fits, T.denV, denL, E.den, D.den1]
  rw [iterL_eq]
  simp [D.den1, binD, D.idx, partD, mxLD, mxD, minC, outOf, denL, E.den, w1, w2]
  rw [iterL_eq]
  simp [D.den1, binD, D.idx, partD, mxLD, mxD, minC, outOf, denL, E.den, w1, w2]
  rw [iterL_eq]
  simp [D.den1, binD, D.idx, partD, mxLD, mxD, minC, outOf, denL, E.den, denVK, T.denV, w1, w2]
theorem firstN_succ {p : Nat → Bool} : ∀ {n i : Nat}, firstN p (n + 1) i = match firstN p n i with
    | some j => some j
    | none => if p (i + n) then none else some (i + n)
  | 0, i => by simp [firstN]
  | n + 1, i => by
    have ih := firstN_succ (p := p) (n := n) (i := i + 1)
    have e1 : firstN p (n + 1 + 1) i = if p i then firstN p (n + 1) (i + 1) else some i := rfl
    have e2 : firstN p (n + 1) i = if p i then firstN p n (i + 1) else some i := rfl
    rw [e1, e2, ih, show i + 1 + n = i + (n + 1) by omega]
    cases p i <;> simp
/-- What one has behind one gate more. -/
theorem firstG_succ (cond : Gt → Bool) (val : Gt → Int) (gs : List Gt) (n : Nat) (hn : n < gs.length)
    (hv : cond gs[n] = true → val gs[n] ≤ 100001) (hm : ∀ j, j < n → (h : j < gs.length) → cond gs[j] = true → cond gs[n] = true → val gs[j] ≤ val gs[n]) (hle : ∀ j, j < n → (h : j < gs.length) → cond gs[j] = true → val gs[j] ≤ 100001) :
    firstG cond val gs (n + 1) = if cond gs[n] then min (min 100001 (firstG cond val gs n)) (val gs[n]) else firstG cond val gs n := by
  unfold firstG gate
  rw [firstN_succ]
  cases h : firstN (fun i => !(gs[i]?).any cond) n 0 with
  | some j =>
    obtain ⟨-, g2, g3, -⟩ := firstN_some h
    have hj : j < n := by omega
    have hjl : j < gs.length := by omega
    simp only [List.getElem?_eq_getElem hjl, Option.any_some, Bool.not_eq_false'] at g3
    simp only [List.getElem?_eq_getElem hjl, Option.elim_some]
    cases hc : cond gs[n]
    · simp
    · have h1 := hm j hj hjl g3 hc
      have h2 := hle j hj hjl g3
      simp only [if_true]
      omega
  | none =>
    simp only [Nat.zero_add, List.getElem?_eq_getElem hn, Option.any_some]
    cases hc : cond gs[n]
    · simp
    · have h1 := hv hc
      simp [List.getElem?_eq_getElem hn]
      omega
theorem firstG_zero (cond : Gt → Bool) (val : Gt → Int) (gs : List Gt) : firstG cond val gs 0 = 100001 := rfl
theorem wI {x : Int} (h : -9223372036854775808 ≤ x ∧ x ≤ 9223372036854775807) : IntKind.i64.wrap x = x := IntWalk.i64_in _ h
theorem dvd_eq {n k : Int} (hn : 0 ≤ n ∧ n ≤ 1000000000000) (hk : 1 ≤ k ∧ k ≤ 1000000000000) : dvd' n k = (n + k - 1) / k := by
  unfold dvd'
  rw [wI (x := n + k) (by omega), wI (x := n + k - 1) (by omega), Int.tdiv_eq_ediv_of_nonneg (by omega)]
  have h1 : (n + k - 1) / k ≤ n + k - 1 := Int.ediv_le_self _ (by omega)
  have h2 : 0 ≤ (n + k - 1) / k := Int.ediv_nonneg (by omega) (by omega)
  exact wI (by omega)
theorem dvd_bd {n k : Int} (hn : 1 ≤ n ∧ n ≤ 1000000) (hk : 1 ≤ k ∧ k ≤ 100000) : 1 ≤ dvd' n k ∧ dvd' n k ≤ 1100000 := by
  rw [dvd_eq (by omega) (by omega)]
  have h1 : (n + k - 1) / k ≤ n + k - 1 := Int.ediv_le_self _ (by omega)
  have h2 : 1 ≤ (n + k - 1) / k := by rw [Int.le_ediv_iff_mul_le (by omega)]; omega
  omega
/-- What is known of a gate of a valid leg. -/
structure GtOK (g : Gt) : Prop where
  a : 0 ≤ g.ol
  b : g.ol ≤ g.oh
  c : g.oh ≤ 100000
  d : 0 ≤ g.sl
  e : g.sl ≤ g.sh
  f : g.sh ≤ 100000
  g : g.ol ≤ g.sh
theorem gok_at {gs : List Gt} (h : gok gs = true) {i : Nat} (hi : i < gs.length) : GtOK gs[i] ∧ gpv gs i < gs[i].ol := by
  simp only [gok, Bool.and_eq_true, decide_eq_true_eq] at h
  have := allN_iff.1 h.2 i hi
  simp only [gat, List.getElem?_eq_getElem hi, Option.all_some, gstep, inS, Bool.and_eq_true, decide_eq_true_eq] at this
  obtain ⟨⟨⟨⟨⟨a, b⟩, c⟩, ⟨d, e⟩, f⟩, g⟩, k⟩ := this
  exact ⟨⟨a, b, c, d, e, f, g⟩, k⟩
theorem gok_lt {gs : List Gt} (h : gok gs = true) {j : Nat} (hj : j < gs.length) : ∀ n, j < n → (hn : n < gs.length) → gs[j].sh < gs[n].ol
  | 0, h1, _ => by omega
  | n + 1, h1, hn => by
    obtain ⟨g1, g2⟩ := gok_at h hn
    rw [gpv_succ (show n < gs.length by omega)] at g2
    by_cases e : j = n
    · subst e; exact g2
    · have := gok_lt h hj n (by omega) (by omega)
      have g3 := (gok_at h (show n < gs.length by omega)).1.g
      omega
theorem firstM_succ {gs : List Gt} (h : gok gs = true) {day d : Int} (hd : 0 ≤ day ∧ day ≤ 100001) (n : Nat) (hn : n < gs.length) :
    firstG (condM day d) (valM day) gs (n + 1) = if condM day d gs[n] then min (min 100001 (firstG (condM day d) (valM day) gs n)) (valM day gs[n]) else firstG (condM day d) (valM day) gs n := by
  have hv : ∀ j, (hj : j < gs.length) → valM day gs[j] ≤ 100001 := fun j hj => by
    have := (gok_at h hj).1
    have h1 := this.b; have h2 := this.c
    unfold valM; omega
  refine firstG_succ _ _ gs n hn (fun _ => hv n hn) (fun j hj hjl _ _ => ?_) (fun j hj hjl _ => hv j hjl)
  have h1 := gok_lt h hjl n hj hn
  have h2 := (gok_at h hjl).1.g
  unfold valM; omega
theorem firstC_succ {gs : List Gt} (h : gok gs = true) {day d : Int} (hd : 0 ≤ day ∧ day ≤ 100001) (hd' : 1 ≤ d ∧ d ≤ 10000000) (n : Nat) (hn : n < gs.length) :
    firstG (condC day d) (valC day) gs (n + 1) = if condC day d gs[n] then min (min 100001 (firstG (condC day d) (valC day) gs n)) (valC day gs[n]) else firstG (condC day d) (valC day) gs n := by
  have hv : ∀ j, (hj : j < gs.length) → valC day gs[j] ≤ 100001 := fun j hj => by
    have := (gok_at h hj).1
    have h2 := this.c
    unfold valC; omega
  refine firstG_succ _ _ gs n hn (fun _ => hv n hn) (fun j hj hjl hc _ => ?_) (fun j hj hjl _ => hv j hjl)
  have h1 := gok_lt h hjl n hj hn
  have h2 := (gok_at h hjl).1
  have h3 := (gok_at h hn).1.b
  have a1 := h2.a; have a2 := h2.b; have a3 := h2.c; have a4 := h2.e
  simp only [condC, decide_eq_true_eq] at hc
  rw [wI (x := max day gs[j].oh + d) (by omega), wI (x := max day gs[j].oh + d - 1) (by omega)] at hc
  unfold valC; omega
def leaveE (ls : List Lg) (pl ph : Int) (k : Nat) (day day' : Int) : D := match ls[k]? with
  | some l => .node [I (firstG (condM day (dvd' l.lo ph)) (valM day) l.gs l.gs.length), I (firstG (condC day' (dvd' l.hi pl)) (valC day') l.gs l.gs.length)]
  | none => .node []
theorem lg_ok {n : Int} {l : Lg} (h : l.ok n = true) : gok l.gs = true ∧ 1 ≤ l.lo ∧ l.lo ≤ l.hi ∧ l.hi ≤ 1000000 ∧ l.a ≠ l.b ∧ 0 ≤ l.a ∧ l.a < n ∧ 0 ≤ l.b ∧ l.b < n := by
  simp only [Lg.ok, inR, inS, Bool.and_eq_true, decide_eq_true_eq, bne_iff_ne, ne_eq] at h
  obtain ⟨⟨⟨⟨⟨a, b⟩, c, d⟩, e⟩, ⟨f, g⟩, i⟩, j⟩ := h
  exact ⟨j, f, g, i, e, a, by omega, c, by omega⟩
theorem e73 (ws : List Wl) (ls : List Lg) (pl ph w a b day day' : Int) (k : Nat) (hk : k < ls.length) (n : Int) (hlg : ls[k].ok n = true) (hp : inS pl ph 1 100000 = true) (hd : 0 ≤ day ∧ day ≤ 100001) (hd' : 0 ≤ day' ∧ day' ≤ 100001) :
    evL FN 73 [.node (carD ws ls pl ph w a b), I k, .node [I day, I day']] = some (leaveE ls pl ph k day day') := by
  refine evL_of (F := F73) rfl ?_
  obtain ⟨p1, p2, p3⟩ := pace_pos hp
  obtain ⟨l1, l2, l3, l4, -⟩ := lg_ok hlg
  have h67 := e67 ws ls pl ph w a b k hk (by omega) (by omega)
  have h74 := e74 100001
  have hd2 := dvd_bd (n := ls[k].hi) (k := pl) (by omega) (by omega)
  have hgl : ls[k].gs.length ≤ 6 := by simp only [gok, Bool.and_eq_true, decide_eq_true_eq] at l1; exact l1.1
  unfold leaveE
  rw [List.getElem?_eq_getElem hk]
  simp only
  generalize hl : ls[k] = l at *
  have hm := fun i hi => firstM_succ l1 (d := dvd' l.lo ph) hd i hi
  have hc := fun i hi => firstC_succ l1 (d := dvd' l.hi pl) hd' (by omega) i hi
  simp only [carD, wls, lgs, I] at h67 h74 ⊢
  simp [F73, Fn.denV, fits, T.denV, denL, E.den, D.cells, h67, h74, D.den1, D.idx, hk, hl, Lg.d, gts, partD]
  rw [iter_allN l.gs.length (fun _ => true) (fun i => [I i, I (firstG (condM day (dvd' l.lo ph)) (valM day) l.gs i), I (firstG (condC day' (dvd' l.hi pl)) (valC day') l.gs i)]) 1 0 [] [I (firstG (condM day (dvd' l.lo ph)) (valM day) l.gs l.gs.length), I (firstG (condC day' (dvd' l.hi pl)) (valC day') l.gs l.gs.length)] (by simp [firstG_zero])]
  · have : allN (fun _ => true) l.gs.length = true := allN_iff.2 fun _ _ => rfl
    simp [this, denVK, T.denV, E.den, denL]
  · intro i hi _
    have h116a := e116 (firstG (condM day (dvd' l.lo ph)) (valM day) l.gs i) (max day l.gs[i].ol)
    have h116b := e116 (firstG (condC day' (dvd' l.hi pl)) (valC day') l.gs i) (max day' l.gs[i].oh)
    have hm := hm i hi
    have hc := hc i hi
    simp only [condM, valM, condC, valC] at hm hc
    simp [binD, hi, hl, idx_nat hi, Gt.d, mxLD, mxD, maxC, maxC', E.den, denL, T.denV, hm, hc, condM, condC, valM, valC, wrapN (show i < 9223372036854775807 by omega)]
    simp only [I] at h116a h116b
    by_cases c1 : IntKind.i64.wrap (IntKind.i64.wrap (max day l.gs[i].ol + dvd' l.lo ph) - 1) ≤ l.gs[i].sh <;> by_cases c2 : IntKind.i64.wrap (IntKind.i64.wrap (max day' l.gs[i].oh + dvd' l.hi pl) - 1) ≤ l.gs[i].sl <;>
      simp [c1, c2, fillD, outOf, denL, E.den, denVK, T.denV, h116a, h116b, D.flat, D.flat0, D.den1, binD, mxLD, mxD, maxC, maxC', D.cells, wrapN (show i < 9223372036854775807 by omega)]
  · intro _
    simp [D.den1, binD, outOf, denL, E.den, hl]
def leaveR (ws : List Wl) (ls : List Lg) (leg day pl ph : Int) : D :=
  if askE ws ls pl ph = 0 then (if inR leg 0 (ls.length - 1) = true ∧ inR day 0 100000 = true then .node [leaveE ls pl ph leg.toNat day day, I 0] else .node [.node [I 0, I 0], I 2])
  else .node [.node [I 0, I 0], I (askE ws ls pl ph)]
theorem land_leg {ws : List Wl} {ls : List Lg} (h : landOK ws ls = true) {k : Nat} (hk : k < ls.length) : ls[k].ok ws.length = true := by
  simp only [landOK, Bool.and_eq_true] at h
  exact List.all_eq_true.1 h.2 _ (List.getElem_mem hk)
/-- More than is considered. -/
def greatL (ws : List Wl) (ls : List Lg) : Bool := decide (20 < ws.length) || decide (40 < ls.length) || !ls.all (fun l => decide (l.gs.length ≤ 20))
theorem e15 (ws : List Wl) (ls : List Lg) (hl : ls.length ≤ 9223372036854775807) : evL FN 15 [landD ws ls] = some (.bool (greatL ws ls)) := by
  refine evL_of (F := F15) rfl ?_
  unfold greatL landD
  by_cases h1 : 20 < ws.length
  · have h1' : (20 : Int) < ws.length := by omega
    simp [F15, Fn.denV, fits, T.denV, denL, E.den, D.cells, wls, lgs, D.den1, binD, outOf, denVK, h1, h1']
  have h1' : ¬ (20 : Int) < ws.length := by omega
  by_cases h2 : 40 < ls.length
  · have h2' : (40 : Int) < ls.length := by omega
    simp [F15, Fn.denV, fits, T.denV, denL, E.den, D.cells, wls, lgs, D.den1, binD, outOf, denVK, h1, h1', h2, h2']
  have h2' : ¬ (40 : Int) < ls.length := by omega
  simp [F15, Fn.denV, fits, T.denV, denL, E.den, D.cells, wls, lgs, D.den1, binD, outOf, denVK, h1, h1', h2, h2']
  rw [iter_all (p := fun l : Lg => decide (l.gs.length ≤ 20)) (t := 0) (u := 1) (xs := ls)]
  · cases ls.all (fun l => decide (l.gs.length ≤ 20)) <;> simp [denVK, T.denV, E.den]
  · intro i l hi
    obtain ⟨hlt, rfl⟩ := List.getElem?_eq_some_iff.1 hi
    by_cases h3 : (ls[i]).gs.length ≤ 20
    · have h3' : ¬ (20 : Int) < (ls[i]).gs.length := by omega
      simp [hlt, idx_nat hlt, hi, Lg.d, gts, partD, h3, h3', outOf, denL, E.den, wrapN (show i < 9223372036854775807 by omega)]
    · have h3' : (20 : Int) < (ls[i]).gs.length := by omega
      simp [hlt, idx_nat hlt, hi, Lg.d, gts, partD, h3, h3', outOf, denL, E.den]
  · simp [outOf, denL]
theorem app_new {α : Type} {g : α → List D} {sz bytes : Nat} (xs : List α) (hg : ∀ x, (g x).length = sz) (hc : (xs.length + 1) * (bytes + 1) ≤ 1099511627776) : D.den1 (.app sz bytes) [.list [], .list (xs.map g)] = some (.list (xs.map g)) := by
  simp only [D.den1]
  rw [if_pos ⟨.inr (by simpa using hc), by simp [hg]⟩]
  rfl
theorem shal_int (n : Nat) (x : Int) : D.shal1 n (I x) = true := by cases n <;> rfl
theorem shal_gts (n : Nat) (gs : List Gt) : D.shal1 (n + 1) (gts gs) = true := by
  simp [gts, D.shal1, D.shal0, Gt.d, shal_int]
theorem shal_land (ws : List Wl) (ls : List Lg) : (landD ws ls).shal 4 = true := by
  simp [landD, wls, lgs, D.shal, D.shal1, D.shal0, Wl.d, Lg.d, gts, Gt.d]
theorem daysR_is (ws : List Wl) (ls : List Lg) (leg pl ph : Int) : ∃ a b e, daysR ws ls leg pl ph = .node [.node [I a, I b], I e] := by
  unfold daysR
  split
  · split <;> exact ⟨_, _, _, rfl⟩
  · exact ⟨_, _, _, rfl⟩
theorem leaveR_is (ws : List Wl) (ls : List Lg) (leg day pl ph : Int) : ∃ a b e, leaveR ws ls leg day pl ph = .node [.node [I a, I b], I e] := by
  unfold leaveR
  split
  · split
    · rename_i h
      obtain ⟨h1, h2⟩ := inR_iff.1 h.1
      unfold leaveE
      rw [List.getElem?_eq_getElem (show leg.toNat < ls.length by omega)]
      exact ⟨_, _, _, rfl⟩
    · exact ⟨_, _, _, rfl⟩
  · exact ⟨_, _, _, rfl⟩
theorem lg_len (l : Lg) : l.d.length = 5 := rfl
end Go.Q
