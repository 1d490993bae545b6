/- Water and work, plain. -/
import Derived.Test.YtkodjegpdkfjkaaWlS
set_option linter.unusedVariables false
set_option linter.unusedSimpArgs false
namespace Go.Proofs.Ytkodjegpdkfjkaa

def fillS (w : Wl) (has : Int × Int) (days : Int) : Int × Int := (mn w.room (has.1 + days * w.yield.1), mn w.room (has.2 + days * w.yield.2))
def skipD (well day : Int) (d : Dr) : Bool := decide (d.well ≠ well) || decide (day ≤ d.day)
/-- What the well has behind the draws, or the first of too much: its place. -/
def watGo (w : Wl) (well day : Int) : List Dr → Int → Int × Int → Int → (Int × Int) × Int × Int
  | [], _, has, got => (fillS w has (day - got), 0, 0)
  | d :: ds, i, has, got =>
    if skipD well day d = true then watGo w well day ds (i + 1) has got
    else if (fillS w has (d.day + 1 - got)).2 < d.water then ((0, 0), i, 33)
    else watGo w well day ds (i + 1) (mx 0 ((fillS w has (d.day + 1 - got)).1 - d.water), (fillS w has (d.day + 1 - got)).2 - d.water) (d.day + 1)
def okDr (n before : Int) (d : Dr) : Bool := okN d.well 0 (n - 1) && okN d.day before 100000 && okN d.water 0 1000000000
def dr0 : Dr := ⟨0, 0, 0⟩
def lastD (ds : List Dr) (k : Nat) : Int := if k = 0 then 0 else (ds.getD (k - 1) dr0).day
def okDrs (n : Int) (ds : List Dr) : Bool := (List.range ds.length).all fun k => okDr n (lastD ds k) (ds.getD k dr0)
def wl0 : Wl := ⟨0, 0, 0, (0, 0), 0, (0, 0), 0⟩
def chkW (ws : List Wl) (ls : List Lg) (well day : Int) (ds : List Dr) : Int :=
  if okLand ws ls = true then (if okN well 0 (ws.length - 1) = true ∧ okN day 0 100000 = true then (if ds.length ≤ 200 then (if okDrs ws.length ds = true then 0 else 32) else 4) else 2) else 30
def watR (ws : List Wl) (ls : List Lg) (well day : Int) (ds : List Dr) : (Int × Int) × Int × Int :=
  if chkW ws ls well day ds = 0 then watGo (ws.getD well.toNat wl0) well day ds 0 (ws.getD well.toNat wl0).has 0 else ((0, 0), 0, chkW ws ls well day ds)
def chkH (ws : List Wl) (ls : List Lg) (well water teams : Int) : Int :=
  if okLand ws ls = true then (if okN well 0 (ws.length - 1) = true ∧ okN water 0 1000000000 = true ∧ okN teams 1 100 = true then 0 else 2) else 30
def hrs (ws : List Wl) (ls : List Lg) (well water teams : Int) : Int :=
  if chkH ws ls well water teams = 0 then (water * (ws.getD well.toNat wl0).depth + 1000000 * teams - 1) / (1000000 * teams) else 0

theorem okDrs_no {n : Int} {ds : List Dr} {k : Nat} (hk : k < ds.length) (h : okDr n (lastD ds k) (ds.getD k dr0) = false) : okDrs n ds = false := by
  rw [okDrs, List.all_eq_false]
  exact ⟨k, List.mem_range.2 hk, by rw [h]; decide⟩
def DrsTo (n : Int) (ds : List Dr) (k : Nat) : Prop := ∀ j, j < k → okDr n (lastD ds j) (ds.getD j dr0) = true
theorem DrsTo.zero (n : Int) (ds : List Dr) : DrsTo n ds 0 := fun j h => absurd h (by omega)
theorem DrsTo.step {n : Int} {ds : List Dr} {k : Nat} (h : DrsTo n ds k) (hg : okDr n (lastD ds k) (ds.getD k dr0) = true) : DrsTo n ds (k + 1) := fun j hjk => by
  by_cases e : j = k
  · subst e; exact hg
  · exact h j (by omega)
theorem DrsTo.all {n : Int} {ds : List Dr} {k : Nat} (h : DrsTo n ds k) (hk : ds.length ≤ k) : okDrs n ds = true := by
  rw [okDrs, List.all_eq_true]
  intro j hj
  exact h j (by have := List.mem_range.1 hj; omega)
theorem okDrs_all {n : Int} {ds : List Dr} (h : okDrs n ds = true) {k : Nat} (hk : k < ds.length) : okDr n (lastD ds k) (ds.getD k dr0) = true := by
  rw [okDrs, List.all_eq_true] at h
  exact h k (List.mem_range.2 hk)

/-- What is so of a valid well. -/
structure BdW (w : Wl) : Prop where
  depth : 0 ≤ w.depth ∧ w.depth ≤ 200
  yield : 0 ≤ w.yield.1 ∧ w.yield.1 ≤ w.yield.2 ∧ w.yield.2 ≤ 10000000
  room : 0 ≤ w.room ∧ w.room ≤ 1000000000
  has : 0 ≤ w.has.1 ∧ w.has.1 ≤ w.has.2 ∧ w.has.2 ≤ w.room
theorem okWl_bd {w : Wl} (h : okWl w = true) : BdW w := by
  simp only [okWl, okN, okSp, Bool.and_eq_true, decide_eq_true_eq] at h
  obtain ⟨⟨⟨⟨⟨⟨-, -⟩, h3⟩, h4⟩, h5⟩, h6⟩, -⟩ := h
  exact ⟨h3, ⟨h4.1.1, h4.1.2, h4.2⟩, h5, ⟨h6.1.1, h6.1.2, h6.2⟩⟩
end Go.Proofs.Ytkodjegpdkfjkaa
