/- Lands, plain: wells, legs and gates; whether a land is valid; how they lie in memory. -/
import Derived.Test.YtkodjegpdkfjkaaBig
set_option linter.unusedVariables false
set_option linter.unusedSimpArgs false
namespace Go.Proofs.Ytkodjegpdkfjkaa
open Go.RowKit
open Go.Proofs

structure Wl where
  x : Int
  y : Int
  depth : Int
  yield : Int × Int
  room : Int
  has : Int × Int
  owner : Int
structure Gt where
  opens : Int × Int
  shuts : Int × Int
structure Lg where
  src : Int
  dst : Int
  long : Int × Int
  gates : List Gt
structure Dr where
  well : Int
  day : Int
  water : Int
def okN (n lo hi : Int) : Bool := decide (lo ≤ n) && decide (n ≤ hi)
def okSp (s : Int × Int) (lo hi : Int) : Bool := decide (lo ≤ s.1) && decide (s.1 ≤ s.2) && decide (s.2 ≤ hi)
def okWl (w : Wl) : Bool := okN w.x (-10000000) 10000000 && okN w.y (-10000000) 10000000 && okN w.depth 0 200 && okSp w.yield 0 10000000 && okN w.room 0 1000000000 && okSp w.has 0 w.room && okN w.owner 0 9999
def okGt (last : Int) (g : Gt) : Bool := okSp g.opens 0 100000 && okSp g.shuts 0 100000 && decide (¬ g.shuts.2 < g.opens.1) && decide (¬ g.opens.1 ≤ last)
/-- How far the gates are valid, from the last day of the one before on. -/
def okGts : Int → List Gt → Bool
  | _, [] => true
  | last, g :: gs => okGt last g && okGts g.shuts.2 gs
def lastG (gs : List Gt) (k : Nat) : Int := if k = 0 then -1 else (gs.getD (k - 1) ⟨(0, 0), (0, 0)⟩).shuts.2
def okLgB (x : Lg) : Bool := decide (x.src ≠ x.dst) && okSp x.long 1 1000000 && (decide (x.gates.length ≤ 6) && okGts (-1) x.gates)
def okLg (n : Int) (x : Lg) : Bool := okN x.src 0 (n - 1) && okN x.dst 0 (n - 1) && okLgB x
def okLand (ws : List Wl) (ls : List Lg) : Bool := okN ws.length 1 12 && decide (ls.length ≤ 24) && ws.all okWl && ls.all (okLg ws.length)

theorem okGts_at : ∀ (gs : List Gt) (last : Int), okGts last gs = true ↔ ∀ k (h : k < gs.length), okGt (if k = 0 then last else (gs.getD (k - 1) ⟨(0, 0), (0, 0)⟩).shuts.2) gs[k] = true
  | [], last => by simp [okGts]
  | g :: gs, last => by
    rw [okGts, Bool.and_eq_true, okGts_at gs g.shuts.2]
    constructor
    · rintro ⟨h1, h2⟩ k hk
      match k with
      | 0 => simpa using h1
      | k + 1 =>
        have := h2 k (by simpa using hk)
        simp only [List.getElem_cons_succ, Nat.add_sub_cancel, Nat.succ_ne_zero, if_false]
        by_cases h0 : k = 0
        · subst h0; simpa using this
        · rw [if_neg h0] at this
          rw [show (g :: gs).getD k ⟨(0, 0), (0, 0)⟩ = gs.getD (k - 1) ⟨(0, 0), (0, 0)⟩ by
            obtain ⟨q, rfl⟩ : ∃ q, k = q + 1 := ⟨k - 1, by omega⟩
            simp]
          exact this
    · intro h
      refine ⟨h 0 (by simp), fun k hk => ?_⟩
      have := h (k + 1) (by simpa using hk)
      simp only [List.getElem_cons_succ, Nat.add_sub_cancel, Nat.succ_ne_zero, if_false] at this
      by_cases h0 : k = 0
      · subst h0; simpa using this
      · rw [if_neg h0]
        rw [show (g :: gs).getD k ⟨(0, 0), (0, 0)⟩ = gs.getD (k - 1) ⟨(0, 0), (0, 0)⟩ by
          obtain ⟨q, rfl⟩ : ∃ q, k = q + 1 := ⟨k - 1, by omega⟩
          simp] at this
        exact this
/-- So far all are valid. -/
def GtsTo (gs : List Gt) (k : Nat) : Prop := ∀ j (h : j < gs.length), j < k → okGt (lastG gs j) gs[j] = true
theorem GtsTo.zero (gs : List Gt) : GtsTo gs 0 := fun j _ h => absurd h (by omega)
theorem GtsTo.step {gs : List Gt} {k : Nat} (h : GtsTo gs k) (hk : k < gs.length) (hg : okGt (lastG gs k) gs[k] = true) : GtsTo gs (k + 1) := fun j hj hjk => by
  by_cases e : j = k
  · subst e; exact hg
  · exact h j hj (by omega)
theorem GtsTo.all {gs : List Gt} {k : Nat} (h : GtsTo gs k) (hk : gs.length ≤ k) : okGts (-1) gs = true := (okGts_at gs (-1)).2 fun j hj => h j hj (by omega)
theorem gts_no {gs : List Gt} {k : Nat} (hk : k < gs.length) (hg : okGt (lastG gs k) gs[k] = false) : okGts (-1) gs = false := by
  cases h : okGts (-1) gs with
  | false => rfl
  | true =>
    have := (okGts_at gs (-1)).1 h k hk
    rw [lastG] at hg
    rw [this] at hg
    exact hg
theorem all_no {α : Type} {p : α → Bool} {xs : List α} {k : Nat} (hk : k < xs.length) (h : p xs[k] = false) : xs.all p = false := by
  rw [List.all_eq_false]
  exact ⟨xs[k], List.getElem_mem hk, by rw [h]; decide⟩
def AllTo {α : Type} (p : α → Bool) (xs : List α) (k : Nat) : Prop := ∀ j (h : j < xs.length), j < k → p xs[j] = true
theorem AllTo.zero {α : Type} (p : α → Bool) (xs : List α) : AllTo p xs 0 := fun j _ h => absurd h (by omega)
theorem AllTo.step {α : Type} {p : α → Bool} {xs : List α} {k : Nat} (h : AllTo p xs k) (hk : k < xs.length) (hg : p xs[k] = true) : AllTo p xs (k + 1) := fun j hj hjk => by
  by_cases e : j = k
  · subst e; exact hg
  · exact h j hj (by omega)
theorem AllTo.all {α : Type} {p : α → Bool} {xs : List α} {k : Nat} (h : AllTo p xs k) (hk : xs.length ≤ k) : xs.all p = true := by
  rw [List.all_eq_true]
  intro x hx
  obtain ⟨j, hj, rfl⟩ := List.getElem_of_mem hx
  exact h j hj (by omega)

/-! In memory -/
def WellAt (W : World) (b o : Nat) (w : Wl) : Prop :=
  W.cell? ⟨b, o, none⟩ = some (.int .i64 w.x) ∧ W.cell? ⟨b, o + 1, none⟩ = some (.int .i64 w.y) ∧ W.cell? ⟨b, o + 2, none⟩ = some (.int .i64 w.depth) ∧ W.cell? ⟨b, o + 3, none⟩ = some (.int .i64 w.yield.1) ∧ W.cell? ⟨b, o + 4, none⟩ = some (.int .i64 w.yield.2) ∧
  W.cell? ⟨b, o + 5, none⟩ = some (.int .i64 w.room) ∧ W.cell? ⟨b, o + 6, none⟩ = some (.int .i64 w.has.1) ∧ W.cell? ⟨b, o + 7, none⟩ = some (.int .i64 w.has.2) ∧ W.cell? ⟨b, o + 8, none⟩ = some (.int .i64 w.owner)
def GateAt (W : World) (b o : Nat) (g : Gt) : Prop :=
  W.cell? ⟨b, o, none⟩ = some (.int .i64 g.opens.1) ∧ W.cell? ⟨b, o + 1, none⟩ = some (.int .i64 g.opens.2) ∧ W.cell? ⟨b, o + 2, none⟩ = some (.int .i64 g.shuts.1) ∧ W.cell? ⟨b, o + 3, none⟩ = some (.int .i64 g.shuts.2)
def DrawAt (W : World) (b o : Nat) (d : Dr) : Prop :=
  W.cell? ⟨b, o, none⟩ = some (.int .i64 d.well) ∧ W.cell? ⟨b, o + 1, none⟩ = some (.int .i64 d.day) ∧ W.cell? ⟨b, o + 2, none⟩ = some (.int .i64 d.water)
/-- A list that lies in memory: nothing, or so many elements of n cells, one behind the other. -/
def ListIn {α : Type} (n : Nat) (at_ : World → Nat → Nat → α → Prop) (W : World) (a : Option Addr) (xs : List α) : Prop := xs = [] ∨ ∃ g off, a = some ⟨g, off, none⟩ ∧ (∀ k (h : k < xs.length), at_ W g (off + k * n) xs[k]) ∧ g < W.heap.size
theorem ListIn.get {α : Type} {n : Nat} {at_ : World → Nat → Nat → α → Prop} {W : World} {a : Option Addr} {xs : List α} (h : ListIn n at_ W a xs) {k : Nat} (hk : k < xs.length) : ∃ g off, a = some ⟨g, off, none⟩ ∧ at_ W g (off + k * n) xs[k] ∧ g < W.heap.size := by
  rcases h with h | ⟨g, off, h1, h2, h3⟩
  · subst h; simp at hk
  · exact ⟨g, off, h1, h2 k hk, h3⟩
theorem ListIn.below {α : Type} {n : Nat} {at_ : World → Nat → Nat → α → Prop} {B : Nat} {W W' : World} (hat : ∀ g o x, g < B → at_ W g o x → at_ W' g o x) {a : Option Addr} {xs : List α} (h : ListIn n at_ W a xs) (hE : Below B W W') (hs : W.heap.size ≤ B) : ListIn n at_ W' a xs := by
  rcases h with h | ⟨g, off, h1, h2, h3⟩
  · exact .inl h
  · exact .inr ⟨g, off, h1, fun k hk => hat _ _ _ (by omega) (h2 k hk), Nat.lt_of_lt_of_le h3 hE.size⟩
theorem at_belowc {B : Nat} {W W' : World} (hB : Below B W W') {g : Nat} (hg : g < B) {o : Nat} {v : Value} (h : W.cell? ⟨g, o, none⟩ = some v) : W'.cell? ⟨g, o, none⟩ = some v := (hB.cell (p := ⟨g, o, none⟩) hg).trans h
theorem WellAt.below {B : Nat} {W W' : World} (hB : Below B W W') (g o : Nat) (x : Wl) (hg : g < B) (h : WellAt W g o x) : WellAt W' g o x := by
  obtain ⟨h0, h1, h2, h3, h4, h5, h6, h7, h8⟩ := h
  exact ⟨at_belowc hB hg h0, at_belowc hB hg h1, at_belowc hB hg h2, at_belowc hB hg h3, at_belowc hB hg h4, at_belowc hB hg h5, at_belowc hB hg h6, at_belowc hB hg h7, at_belowc hB hg h8⟩
theorem GateAt.below {B : Nat} {W W' : World} (hB : Below B W W') (g o : Nat) (x : Gt) (hg : g < B) (h : GateAt W g o x) : GateAt W' g o x := by
  obtain ⟨h0, h1, h2, h3⟩ := h
  exact ⟨at_belowc hB hg h0, at_belowc hB hg h1, at_belowc hB hg h2, at_belowc hB hg h3⟩
theorem DrawAt.below {B : Nat} {W W' : World} (hB : Below B W W') (g o : Nat) (x : Dr) (hg : g < B) (h : DrawAt W g o x) : DrawAt W' g o x := by
  obtain ⟨h0, h1, h2⟩ := h
  exact ⟨at_belowc hB hg h0, at_belowc hB hg h1, at_belowc hB hg h2⟩
def GatesIn (W : World) (a : Option Addr) (gs : List Gt) : Prop := ListIn 4 GateAt W a gs
def LegAt (B : Nat) (W : World) (b o : Nat) (x : Lg) : Prop :=
  W.cell? ⟨b, o, none⟩ = some (.int .i64 x.src) ∧ W.cell? ⟨b, o + 1, none⟩ = some (.int .i64 x.dst) ∧ W.cell? ⟨b, o + 2, none⟩ = some (.int .i64 x.long.1) ∧ W.cell? ⟨b, o + 3, none⟩ = some (.int .i64 x.long.2) ∧
  ∃ ga gcap, W.cell? ⟨b, o + 4, none⟩ = some (.slice ga x.gates.length gcap) ∧ (x.gates = [] ∨ ∃ g off, ga = some ⟨g, off, none⟩ ∧ (∀ k (h : k < x.gates.length), GateAt W g (off + k * 4) x.gates[k]) ∧ g < B)
theorem LegAt.below {B C : Nat} {W W' : World} (hB : Below B W W') (hC : C ≤ B) (g o : Nat) (x : Lg) (hg : g < B) (h : LegAt C W g o x) : LegAt C W' g o x := by
  obtain ⟨h0, h1, h2, h3, ga, gcap, h4, h5⟩ := h
  refine ⟨at_belowc hB hg h0, at_belowc hB hg h1, at_belowc hB hg h2, at_belowc hB hg h3, ga, gcap, at_belowc hB hg h4, ?_⟩
  rcases h5 with h5 | ⟨g', off, e, h6, h7⟩
  · exact .inl h5
  · exact .inr ⟨g', off, e, fun k hk => (h6 k hk).below hB _ _ _ (by omega), h7⟩
/-- A land that was handed over: all of it lies below C. -/
structure LandIn (C : Nat) (W : World) (a1 a2 : Option Addr) (ws : List Wl) (ls : List Lg) : Prop where
  wells : ListIn 9 WellAt W a1 ws
  legs : ListIn 5 (LegAt C) W a2 ls
  lt1 : ∀ a, a1 = some a → ws ≠ [] → a.block < C
  lt2 : ∀ a, a2 = some a → ls ≠ [] → a.block < C
theorem LandIn.below {B C : Nat} {W W' : World} {a1 a2 : Option Addr} {ws : List Wl} {ls : List Lg} (h : LandIn C W a1 a2 ws ls) (hB : Below B W W') (hC : C ≤ B) : LandIn C W' a1 a2 ws ls := by
  refine ⟨?_, ?_, h.lt1, h.lt2⟩
  · rcases h.wells with e | ⟨g, off, e, h2, h3⟩
    · exact .inl e
    · by_cases h0 : ws = []
      · exact .inl h0
      · have := h.lt1 _ e h0
        exact .inr ⟨g, off, e, fun k hk => (h2 k hk).below hB _ _ _ (by simp only at this; omega), Nat.lt_of_lt_of_le h3 hB.size⟩
  · rcases h.legs with e | ⟨g, off, e, h2, h3⟩
    · exact .inl e
    · by_cases h0 : ls = []
      · exact .inl h0
      · have := h.lt2 _ e h0
        exact .inr ⟨g, off, e, fun k hk => (h2 k hk).below hB hC _ _ _ (by simp only at this; omega), Nat.lt_of_lt_of_le h3 hB.size⟩
end Go.Proofs.Ytkodjegpdkfjkaa
