/- Plain functions: what layer 1 (camel) of the document says of a breed, an animal and a day. No program is named here. -/
import Derived.Test.YtafdcbdbllpcnaaRows
import Derived.ProofKit
import Derived.OpenShut
import Derived.WalkKit
import Derived.WalkLawsBesides
import Derived.Handy
import Derived.Laws.Rows
import Derived.Laws.Tables
namespace Go.Proofs.Ytafdcbdbllpcnaa

/-- A breed, an animal, a day: numbers. -/
structure Br where
  full : Int
  fed : Int
  rest : Int × Int
  heat : Int × Int
  toil : Int × Int
  burn : Int × Int
  rub : Int × Int
  milk : Int × Int
  heal : Int
  strong : Int × Int
structure Cm where
  water : Int × Int
  fat : Int × Int
  sore : Int × Int
  milks : Bool
structure Mr where
  hours : Int
  load : Int
  heat : Int × Int
  grass : Int × Int
  drinks : Int × Int

def okSpan (most : Int) (s : Int × Int) : Bool := decide (0 ≤ s.1) && decide (s.1 ≤ s.2) && decide (s.2 ≤ most)

def okB1 (b : Br) : Bool := decide (1 ≤ b.full) && decide (b.full ≤ 1000000) && decide (1 ≤ b.fed) && decide (b.fed ≤ 1000000)
def okB2 (b : Br) : Bool := [b.rest, b.heat, b.toil, b.burn, b.rub, b.milk].all (okSpan 100000)
def okB3 (b : Br) : Bool := decide (0 ≤ b.heal) && decide (b.heal ≤ 1000)
def okB4 (b : Br) : Bool := [b.strong].all (okSpan 1000000)
def okB (b : Br) : Bool := okB1 b && okB2 b && okB3 b && okB4 b
def inB (lo hi n : Int) : Bool := decide (lo ≤ n) && decide (n ≤ hi)
def refB (b : Br) : Bool := inB 1 1000000 b.full && inB 1 1000000 b.fed && inB 0 1000 b.heal && okSpan 1000000 b.strong &&
  okSpan 100000 b.rest && okSpan 100000 b.heat && okSpan 100000 b.toil && okSpan 100000 b.burn && okSpan 100000 b.rub && okSpan 100000 b.milk
theorem refB_eq (b : Br) : refB b = okB b := by
  simp only [refB, okB, okB1, okB2, okB3, okB4, inB, List.all_cons, List.all_nil, Bool.and_true]
  rw [Bool.eq_iff_iff]
  simp only [Bool.and_eq_true]
  constructor
  · rintro ⟨⟨⟨⟨⟨⟨⟨⟨⟨⟨a1, a2⟩, a3, a4⟩, a5, a6⟩, a7⟩, a8⟩, a9⟩, a10⟩, a11⟩, a12⟩, a13⟩
    exact ⟨⟨⟨⟨⟨⟨a1, a2⟩, a3⟩, a4⟩, a8, a9, a10, a11, a12, a13⟩, a5, a6⟩, a7⟩
  · rintro ⟨⟨⟨⟨⟨⟨a1, a2⟩, a3⟩, a4⟩, a8, a9, a10, a11, a12, a13⟩, a5, a6⟩, a7⟩
    exact ⟨⟨⟨⟨⟨⟨⟨⟨⟨⟨a1, a2⟩, a3, a4⟩, a5, a6⟩, a7⟩, a8⟩, a9⟩, a10⟩, a11⟩, a12⟩, a13⟩
def okC (b : Br) (c : Cm) : Bool := okSpan b.full c.water && okSpan b.fed c.fat && okSpan 1000 c.sore
def okM (m : Mr) : Bool := inB 0 24 m.hours && inB 0 1000000 m.load && okSpan 60 m.heat && okSpan 1000000 m.grass && okSpan 1000000 m.drinks

/-- The product of spans, and their sum. -/
def prodS : List (Int × Int) → Int × Int → Int × Int
  | [], p => p
  | s :: l, p => prodS l (p.1 * s.1, p.2 * s.2)
def sumS : List (Int × Int) → Int × Int → Int × Int
  | [], p => p
  | s :: l, p => sumS l (p.1 + s.1, p.2 + s.2)
def scaledS (d : Int) (l : List (Int × Int)) : Int × Int := ((prodS l (1, 1)).1 / d, ((prodS l (1, 1)).2 + d - 1) / d)

def mn (x y : Int) : Int := if y < x then y else x
def mx (x y : Int) : Int := if y > x then y else x
/-- How fit a valid animal is; what it can carry. -/
def fitS (b : Br) (c : Cm) : Int × Int :=
  (mn (mn (mn 1000 (2000 * c.water.1 / b.full)) (2000 * c.fat.1 / b.fed)) (1000 - c.sore.2),
   mn (mn (mn 1000 ((2000 * c.water.2 + b.full - 1) / b.full)) ((2000 * c.fat.2 + b.fed - 1) / b.fed)) (1000 - c.sore.1))
def carS (b : Br) (c : Cm) : Int × Int := (b.strong.1 * (fitS b c).1 / 1000, (b.strong.2 * (fitS b c).2 + 1000 - 1) / 1000)
theorem okSpan_bd {m : Int} {s : Int × Int} (h : okSpan m s = true) : 0 ≤ s.1 ∧ s.1 ≤ s.2 ∧ s.2 ≤ m := by
  simp only [okSpan, Bool.and_eq_true, decide_eq_true_eq] at h
  exact ⟨h.1.1, h.1.2, h.2⟩
/-- Bounds of a valid breed's numbers. -/
structure BdB (b : Br) : Prop where
  full : 1 ≤ b.full ∧ b.full ≤ 1000000
  fed : 1 ≤ b.fed ∧ b.fed ≤ 1000000
  rest : 0 ≤ b.rest.1 ∧ b.rest.1 ≤ b.rest.2 ∧ b.rest.2 ≤ 100000
  heat : 0 ≤ b.heat.1 ∧ b.heat.1 ≤ b.heat.2 ∧ b.heat.2 ≤ 100000
  toil : 0 ≤ b.toil.1 ∧ b.toil.1 ≤ b.toil.2 ∧ b.toil.2 ≤ 100000
  burn : 0 ≤ b.burn.1 ∧ b.burn.1 ≤ b.burn.2 ∧ b.burn.2 ≤ 100000
  rub : 0 ≤ b.rub.1 ∧ b.rub.1 ≤ b.rub.2 ∧ b.rub.2 ≤ 100000
  milk : 0 ≤ b.milk.1 ∧ b.milk.1 ≤ b.milk.2 ∧ b.milk.2 ≤ 100000
  heal : 0 ≤ b.heal ∧ b.heal ≤ 1000
  strong : 0 ≤ b.strong.1 ∧ b.strong.1 ≤ b.strong.2 ∧ b.strong.2 ≤ 1000000
theorem okB_bd {b : Br} (h : okB b = true) : BdB b := by
  simp only [okB, okB1, okB2, okB3, okB4, List.all_cons, List.all_nil, Bool.and_true, Bool.and_eq_true, decide_eq_true_eq] at h
  obtain ⟨⟨⟨⟨⟨⟨a1, a2⟩, a3⟩, a4⟩, a8, a9, a10, a11, a12, a13⟩, a5, a6⟩, a7⟩ := h
  exact ⟨⟨a1, a2⟩, ⟨a3, a4⟩, okSpan_bd a8, okSpan_bd a9, okSpan_bd a10, okSpan_bd a11, okSpan_bd a12, okSpan_bd a13, ⟨a5, a6⟩, okSpan_bd a7⟩
structure BdC (b : Br) (c : Cm) : Prop where
  water : 0 ≤ c.water.1 ∧ c.water.1 ≤ c.water.2 ∧ c.water.2 ≤ b.full
  fat : 0 ≤ c.fat.1 ∧ c.fat.1 ≤ c.fat.2 ∧ c.fat.2 ≤ b.fed
  sore : 0 ≤ c.sore.1 ∧ c.sore.1 ≤ c.sore.2 ∧ c.sore.2 ≤ 1000
theorem okC_bd {b : Br} {c : Cm} (h : okC b c = true) : BdC b c := by
  simp only [okC, Bool.and_eq_true] at h
  exact ⟨okSpan_bd h.1.1, okSpan_bd h.1.2, okSpan_bd h.2⟩
structure BdM (m : Mr) : Prop where
  hours : 0 ≤ m.hours ∧ m.hours ≤ 24
  load : 0 ≤ m.load ∧ m.load ≤ 1000000
  heat : 0 ≤ m.heat.1 ∧ m.heat.1 ≤ m.heat.2 ∧ m.heat.2 ≤ 60
  grass : 0 ≤ m.grass.1 ∧ m.grass.1 ≤ m.grass.2 ∧ m.grass.2 ≤ 1000000
  drinks : 0 ≤ m.drinks.1 ∧ m.drinks.1 ≤ m.drinks.2 ∧ m.drinks.2 ≤ 1000000
theorem okM_bd {m : Mr} (h : okM m = true) : BdM m := by
  simp only [okM, inB, Bool.and_eq_true, decide_eq_true_eq] at h
  obtain ⟨⟨⟨⟨⟨a1, a2⟩, a3, a4⟩, a5⟩, a6⟩, a7⟩ := h
  exact ⟨⟨a1, a2⟩, ⟨a3, a4⟩, okSpan_bd a5, okSpan_bd a6, okSpan_bd a7⟩

theorem mul_le {x y a b : Int} (hx : 0 ≤ x) (hy : 0 ≤ y) (ha : x ≤ a) (hb : y ≤ b) : 0 ≤ x * y ∧ x * y ≤ a * b :=
  ⟨Int.mul_nonneg hx hy, Int.mul_le_mul ha hb hy (Int.le_trans hx ha)⟩

theorem fitS_bd {b : Br} {c : Cm} (hb : BdB b) (hc : BdC b c) : 0 ≤ (fitS b c).1 ∧ (fitS b c).1 ≤ 1000 ∧ 0 ≤ (fitS b c).2 ∧ (fitS b c).2 ≤ 1000 := by
  have := hb.full
  have := hb.fed
  have := hc.water
  have := hc.fat
  have := hc.sore
  have q1 : 0 ≤ 2000 * c.water.1 / b.full := Int.ediv_nonneg (by omega) (by omega)
  have q2 : 0 ≤ 2000 * c.fat.1 / b.fed := Int.ediv_nonneg (by omega) (by omega)
  have q3 : 0 ≤ (2000 * c.water.2 + b.full - 1) / b.full := Int.ediv_nonneg (by omega) (by omega)
  have q4 : 0 ≤ (2000 * c.fat.2 + b.fed - 1) / b.fed := Int.ediv_nonneg (by omega) (by omega)
  simp only [fitS, mn]
  generalize 2000 * c.water.1 / b.full = x1 at *
  generalize 2000 * c.fat.1 / b.fed = x2 at *
  generalize (2000 * c.water.2 + b.full - 1) / b.full = x3 at *
  generalize (2000 * c.fat.2 + b.fed - 1) / b.fed = x4 at *
  refine ⟨?_, ?_, ?_, ?_⟩ <;> (repeat' split) <;> omega
end Go.Proofs.Ytafdcbdbllpcnaa
/- The shape of the arguments: a breed, an animal and a day by value are their numbers. -/
namespace Go.Proofs.Ytafdcbdbllpcnaa
open Go.ChangeShapes Go.WideShapes Go.ChangeAt Go.RowKit
open Go.Proofs

theorem cell_int {P : Program} {w : World} {r : Reach} {base : Nat} {t : TypeId} {k : IntKind} {v : Value} (ht : P.underlying t = some (.int k)) (h : Cell.okWide P w r base t v) : ∃ n, v = .int k n := by
  simp only [Cell.okWide, ht] at h
  cases v <;> simp_all [Cell.ok]
theorem cell_bool {P : Program} {w : World} {r : Reach} {base : Nat} {t : TypeId} {v : Value} (ht : P.underlying t = some .bool) (h : Cell.okWide P w r base t v) : ∃ b, v = .bool b := by
  simp only [Cell.okWide, ht] at h
  cases v <;> simp_all [Cell.ok]

set_option maxRecDepth 100000 in
/-- The cells of a struct by value. -/
theorem shape_cells {w : World} {r : Reach} {base : Nat} {t : TypeId} {v : Value} {fs : Array Field} {ts : List TypeId} (n : Nat) (hu : Try.prog.underlying t = some (.struct fs)) (hn : Try.prog.cellsOf t = n) (hts : Try.prog.cellTypes Try.prog.depth t = some ts) (hl : ts.length = n) (h : Value.okWide Try.prog w r base t v) :
    ∃ cs : Array Value, v = .agg cs ∧ cs.size = n ∧ ∀ i, i < n → ∃ c u, cs[i]? = some c ∧ ts[i]? = some u ∧ Cell.okWide Try.prog w r base u c := by
  simp only [Value.okWide, hu] at h
  obtain ⟨cs, rfl, hsz, ts', hts', -, hc⟩ := h
  rw [hts] at hts'
  obtain rfl := Option.some.inj hts'
  refine ⟨cs, rfl, hsz.trans hn, fun i hi => ?_⟩
  have hi' : i < cs.size := by omega
  obtain ⟨u, h1, h2⟩ := hc i cs[i] (Array.getElem?_eq_getElem hi')
  rw [Nat.mod_eq_of_lt (by omega)] at h1
  exact ⟨cs[i], u, Array.getElem?_eq_getElem hi', h1, h2⟩

theorem ints_of {cs : Array Value} {n : Nat} (h : ∀ i, i < n → ∃ m : Int, cs[i]? = some (.int .i64 m)) : ∃ f : Nat → Int, ∀ i, i < n → cs[i]? = some (.int .i64 (f i)) := by
  refine ⟨fun i => if hi : i < n then Classical.choose (h i hi) else 0, fun i hi => ?_⟩
  simp only [hi, dif_pos]
  exact Classical.choose_spec (h i hi)

theorem cells_eq {cs : Array Value} (l : List Value) (hs : cs.size = l.length) (h : ∀ i, i < l.length → cs[i]? = l[i]?) : cs = l.toArray := by
  apply Array.ext_getElem?
  intro i
  by_cases hi : i < l.length
  · rw [h i hi]; simp
  · rw [Array.getElem?_eq_none (by omega), Array.getElem?_eq_none (by simp; omega)]

set_option maxRecDepth 100000
theorem types36 : Try.prog.cellTypes Try.prog.depth 36 = some (List.replicate 17 3) := by kernel_rfl
theorem types45 : Try.prog.cellTypes Try.prog.depth 45 = some (List.replicate 8 3) := by kernel_rfl
theorem types39 : Try.prog.cellTypes Try.prog.depth 39 = some [3, 3, 3, 3, 3, 3, 4] := by kernel_rfl

theorem shapeB {w : World} {r : Reach} {base : Nat} {v : Value} (h : Value.okWide Try.prog w r base 36 v) : ∃ b : Br, v = .agg #[.int .i64 b.full, .int .i64 b.fed, .int .i64 b.rest.1, .int .i64 b.rest.2, .int .i64 b.heat.1, .int .i64 b.heat.2, .int .i64 b.toil.1, .int .i64 b.toil.2, .int .i64 b.burn.1, .int .i64 b.burn.2, .int .i64 b.rub.1, .int .i64 b.rub.2, .int .i64 b.milk.1, .int .i64 b.milk.2, .int .i64 b.heal, .int .i64 b.strong.1, .int .i64 b.strong.2] := by
  obtain ⟨cs, rfl, hs, hc⟩ := shape_cells 17 Try.underlying36 (by kernel_rfl) types36 (by simp) h
  obtain ⟨f, hf⟩ := ints_of (cs := cs) (n := 17) fun i hi => by
    obtain ⟨c, u, h1, h2, h3⟩ := hc i hi
    rw [List.getElem?_replicate, if_pos hi] at h2
    obtain rfl := Option.some.inj h2
    obtain ⟨n, rfl⟩ := cell_int Try.underlying3 h3
    exact ⟨n, h1⟩
  refine ⟨⟨f 0, f 1, (f 2, f 3), (f 4, f 5), (f 6, f 7), (f 8, f 9), (f 10, f 11), (f 12, f 13), f 14, (f 15, f 16)⟩, ?_⟩
  have e := cells_eq (cs := cs) ((List.range 17).map fun i => .int .i64 (f i)) (by simpa using hs) (fun i hi => by
    simp only [List.length_map, List.length_range] at hi
    rw [hf i hi]; simp [hi])
  subst e
  rfl
theorem shapeM {w : World} {r : Reach} {base : Nat} {v : Value} (h : Value.okWide Try.prog w r base 45 v) : ∃ m : Mr, v = .agg #[.int .i64 m.hours, .int .i64 m.load, .int .i64 m.heat.1, .int .i64 m.heat.2, .int .i64 m.grass.1, .int .i64 m.grass.2, .int .i64 m.drinks.1, .int .i64 m.drinks.2] := by
  obtain ⟨cs, rfl, hs, hc⟩ := shape_cells 8 Try.underlying45 (by kernel_rfl) types45 (by simp) h
  obtain ⟨f, hf⟩ := ints_of (cs := cs) (n := 8) fun i hi => by
    obtain ⟨c, u, h1, h2, h3⟩ := hc i hi
    rw [List.getElem?_replicate, if_pos hi] at h2
    obtain rfl := Option.some.inj h2
    obtain ⟨n, rfl⟩ := cell_int Try.underlying3 h3
    exact ⟨n, h1⟩
  refine ⟨⟨f 0, f 1, (f 2, f 3), (f 4, f 5), (f 6, f 7)⟩, ?_⟩
  have e := cells_eq (cs := cs) ((List.range 8).map fun i => .int .i64 (f i)) (by simpa using hs) (fun i hi => by
    simp only [List.length_map, List.length_range] at hi
    rw [hf i hi]; simp [hi])
  subst e
  rfl
theorem shapeC {w : World} {r : Reach} {base : Nat} {v : Value} (h : Value.okWide Try.prog w r base 39 v) : ∃ c : Cm, v = .agg #[.int .i64 c.water.1, .int .i64 c.water.2, .int .i64 c.fat.1, .int .i64 c.fat.2, .int .i64 c.sore.1, .int .i64 c.sore.2, .bool c.milks] := by
  obtain ⟨cs, rfl, hs, hc⟩ := shape_cells 7 Try.underlying39 (by kernel_rfl) types39 (by simp) h
  obtain ⟨f, hf⟩ := ints_of (cs := cs) (n := 6) fun i hi => by
    obtain ⟨c, u, h1, h2, h3⟩ := hc i (by omega)
    have hu : [3, 3, 3, 3, 3, 3, 4][i]? = some 3 := by
      match i, hi with
      | 0, _ => rfl
      | 1, _ => rfl
      | 2, _ => rfl
      | 3, _ => rfl
      | 4, _ => rfl
      | 5, _ => rfl
    rw [hu] at h2
    obtain rfl := Option.some.inj h2
    obtain ⟨n, rfl⟩ := cell_int Try.underlying3 h3
    exact ⟨n, h1⟩
  obtain ⟨c, u, h1, h2, h3⟩ := hc 6 (by omega)
  obtain rfl : 4 = u := Option.some.inj h2
  obtain ⟨k, rfl⟩ := cell_bool Try.underlying4 h3
  refine ⟨⟨(f 0, f 1), (f 2, f 3), (f 4, f 5), k⟩, ?_⟩
  have e := cells_eq (cs := cs) ((List.range 6).map (fun i => .int .i64 (f i)) ++ [.bool k]) (by simpa using hs) (fun i hi => by
    simp only [List.length_append, List.length_map, List.length_range, List.length_cons, List.length_nil] at hi
    by_cases h6 : i < 6
    · rw [hf i h6, List.getElem?_append_left (by simpa using h6)]; simp [h6]
    · obtain rfl : i = 6 := by omega
      rw [h1]; simp)
  subst e
  rfl
end Go.Proofs.Ytafdcbdbllpcnaa
/- Laws for wide structs: a whole block read, a whole new block written, whatever its width; over every program. -/
namespace Go.Proofs.Ytafdcbdbllpcnaa
open Go.RowKit

/-- The cells of a block that is no map and that may be written. -/
def rowOf (w : World) (g : Nat) : Option (Array Value) := match w.heap[g]? with | some (.cells cs _ (0, 0)) => some cs | _ => none

theorem heap_alloc_if (w : World) (o : Obj) (g : Nat) : (w.alloc o).heap[g]? = if g = w.heap.size then some o else w.heap[g]? := by
  show (w.heap.push o)[g]? = _
  rw [Array.getElem?_push]
theorem rowOf_alloc (w : World) (cs : Array Value) (t : TypeId) (g : Nat) : rowOf (w.alloc (.cells cs t)) g = if g = w.heap.size then some cs else rowOf w g := by
  unfold rowOf
  rw [heap_alloc_if]
  by_cases h : g = w.heap.size <;> simp [h]
theorem rowOf_below {W w1 : World} (h : Below W.heap.size W w1) : ∀ b, b < W.heap.size → rowOf w1 b = rowOf W b := fun b hb => by
  unfold rowOf
  rw [h.block b hb]
theorem rowOf_drew (w : World) (g : Nat) : rowOf w.drew g = rowOf w g := rfl
theorem rowOf_some {w : World} {g : Nat} {cs : Array Value} (h : rowOf w g = some cs) : ∃ t, w.heap[g]? = some (.cells cs t (0, 0)) := by
  unfold rowOf at h
  split at h
  · rename_i c t he
    exact ⟨t, by rw [he]; simp at h; rw [h]⟩
  · simp at h

theorem setRow_alloc (w : World) (cs vs : Array Value) (t : TypeId) (g : Nat) (hg : g ≤ w.heap.size) : (w.alloc (.cells cs t)).setRow g vs = if g = w.heap.size then w.alloc (.cells vs t) else (w.setRow g vs).alloc (.cells cs t) := by
  simp only [World.setRow, World.alloc]
  by_cases h : g = w.heap.size
  · subst h
    rw [if_pos rfl]
    congr 1
    apply Array.ext_getElem?
    intro i
    simp only [Array.getElem?_modify, Array.getElem?_push]
    by_cases hi : i = w.heap.size
    · subst hi; simp
    · simp [hi, Ne.symm hi]
  · rw [if_neg h]
    congr 1
    apply Array.ext_getElem?
    intro i
    simp only [Array.getElem?_modify, Array.getElem?_push, Array.size_modify]
    by_cases hi : i = w.heap.size
    · subst hi; simp [h]
    · simp [hi]

theorem Below_setRow {B : Nat} {a w : World} (h : Below B a w) {g : Nat} (hg : B ≤ g) (vs : Array Value) : Below B a (w.setRow g vs) :=
  h.trans ⟨rfl, rfl, rfl, by simp [World.setRow], fun k hk => setRow_other w g k vs (by omega)⟩

theorem one_int (k : IntKind) (n : Int) : (Value.int k n).oneCell' = true := rfl
theorem one_bool (b : Bool) : (Value.bool b).oneCell' = true := rfl

theorem mn_min (x y : Int) : mn x y = min x y := by unfold mn; omega
theorem mx_max (x y : Int) : mx x y = max x y := by unfold mx; omega
section
variable {P : Program} (w : World) (ts : Array TypeId) (t : TypeId)
theorem run_min4 (x y z u : Int) : (Builtin.min_ ts t #[.int .i64 x, .int .i64 y, .int .i64 z, .int .i64 u]).run P w = .ok (.int .i64 (mn (mn (mn x y) z) u)) w := by
  unfold mn
  simp only [Builtin.min_, List.foldlM_cons, List.foldlM_nil]
  by_cases h1 : y < x <;> by_cases h2 : z < (if y < x then y else x) <;> simp [Builtin.min2, h1]
theorem run_min2 (x y : Int) : (Builtin.min_ ts t #[.int .i64 x, .int .i64 y]).run P w = .ok (.int .i64 (mn x y)) w := by
  simp [mn, Builtin.min_, Builtin.min2]
theorem run_max2 (k : IntKind) (x y : Int) : (Builtin.max_ ts t #[.int k x, .int k y]).run P w = .ok (.int k (mx x y)) w := by
  simp [mx, Builtin.max_, Builtin.max2]
end

/-- A whole load, a whole store: the walk does not open them. -/
def wideLoad (t : TypeId) (v : Value) : Sem Next := do pure (.value (← Instr.loadAt t v))
def wideStore (t : TypeId) (v x : Value) : Sem Next := do Instr.storeAt t v x; pure .skip
def wideLoadElse (P : Program) (t : TypeId) (g : Nat) (w : World) : Result Next := (wideLoad t (.pointer (some ⟨g, 0, none⟩))).run P w
def wideStoreElse (P : Program) (t : TypeId) (g : Nat) (x : Value) (w : World) : Result Next := (wideStore t (.pointer (some ⟨g, 0, none⟩)) x).run P w

theorem execOp_wideLoad (t : TypeId) (ρ : Operand → Value) (dst : Option Tmp) (x : Operand) (ty : TypeId) (pos : String) (after : Array Edge) (guard : Option (Nat × Bool)) :
    execOp ρ { dst, op := .load t x, type := ty, pos, after, guard } = wideLoad t (ρ x) := rfl
theorem execOp_wideStore (t : TypeId) (ρ : Operand → Value) (dst : Option Tmp) (x y : Operand) (ty : TypeId) (pos : String) (after : Array Edge) (guard : Option (Nat × Bool)) :
    execOp ρ { dst, op := .store t x y, type := ty, pos, after, guard } = wideStore t (ρ x) (ρ y) := rfl

theorem cell_of_rowOf {w : World} {g : Nat} {cs : Array Value} (h : rowOf w g = some cs) : (∀ j, w.cell? ⟨g, j, none⟩ = cs[j]?) ∧ (∀ j, w.frozen? ⟨g, j, none⟩ = false) ∧ g < w.heap.size := by
  obtain ⟨t, hg⟩ := rowOf_some h
  exact ⟨fun j => cell_of_row w g j cs t _ hg, fun j => frozen_of_row w g j cs t hg, (Array.getElem?_eq_some_iff.1 hg).1⟩
/-- Behind a call a block of the caller's reads as it did. -/
theorem keep_row {W w1 : World} (hB : Below W.heap.size W w1) {g : Nat} {cs : Array Value} (h : rowOf W g = some cs) : rowOf w1 g = some cs ∧ (∀ j, w1.cell? ⟨g, j, none⟩ = cs[j]?) ∧ (∀ j, w1.frozen? ⟨g, j, none⟩ = false) ∧ g < w1.heap.size := by
  have h' : rowOf w1 g = some cs := by rw [rowOf_below hB g (cell_of_rowOf h).2.2]; exact h
  exact ⟨h', cell_of_rowOf h'⟩

theorem row_here0 (w : World) (cs : Array Value) (t : TypeId) : rowOf (w.alloc (.cells cs t)) w.heap.size = some cs := by rw [rowOf_alloc, if_pos rfl]
theorem row_here1 (w : World) (o : Obj) (cs : Array Value) (t : TypeId) : rowOf ((w.alloc o).alloc (.cells cs t)) (w.heap.size + 1) = some cs := by rw [rowOf_alloc, if_pos (by simp)]
theorem row_here2 (w : World) (o o' : Obj) (cs : Array Value) (t : TypeId) : rowOf (((w.alloc o).alloc o').alloc (.cells cs t)) (w.heap.size + 1 + 1) = some cs := by rw [rowOf_alloc, if_pos (by simp)]
theorem row_here3 (w : World) (o o' o'' : Obj) (cs : Array Value) (t : TypeId) : rowOf ((((w.alloc o).alloc o').alloc o'').alloc (.cells cs t)) (w.heap.size + 1 + 1 + 1) = some cs := by rw [rowOf_alloc, if_pos (by simp)]
theorem rowSkip {w : World} {o : Obj} {g : Nat} {r : Array Value} (h : rowOf w g = some r) : rowOf (w.alloc o) g = some r := by
  have hg := (cell_of_rowOf h).2.2
  unfold rowOf at h ⊢
  rw [heap_alloc_if, if_neg (by omega)]
  exact h

section
variable {P : Program}
theorem run_wideLoad {t : TypeId} {d : TypeDesc} (n : Nat) (hu : P.underlying t = some d) (hd : (match d with | .struct _ | .array _ _ => true | _ => false) = true) (hi : (P.info? t).map (·.size) = some n)
    (g : Nat) (w : World) : (wideLoad t (.pointer (some ⟨g, 0, none⟩))).run P w = match rowOf w g with
      | some cs => if cs.size = n then .ok (.value (.agg cs)) w else wideLoadElse P t g w
      | none => wideLoadElse P t g w := by
  cases h : rowOf w g with
  | none => rfl
  | some cs =>
    obtain ⟨t', hg⟩ := rowOf_some h
    by_cases hs : cs.size = n
    · simp only [hs, if_true]
      subst hs
      simp only [wideLoad, Instr.loadAt, Instr.sureAddr, Sem.run_bind, Sem.run_pure, Result.andThen_ok, run_loadVar_row w g t' t cs (0, 0) d hg hu hd hi]
    · simp only [hs, if_false]; rfl
theorem run_wideStore {t : TypeId} (n : Nat) (hi : (P.info? t).map (·.size) = some n)
    (g : Nat) (vs : Array Value) (w : World) : (wideStore t (.pointer (some ⟨g, 0, none⟩)) (.agg vs)).run P w = match rowOf w g with
      | some cs => if cs.size = n ∧ vs.size = n ∧ vs.all (·.oneCell') = true then .ok .skip (w.setRow g vs) else wideStoreElse P t g (.agg vs) w
      | none => wideStoreElse P t g (.agg vs) w := by
  cases h : rowOf w g with
  | none => rfl
  | some cs =>
    obtain ⟨t', hg⟩ := rowOf_some h
    by_cases hs : cs.size = n ∧ vs.size = n ∧ vs.all (·.oneCell') = true
    · show _ = if cs.size = n ∧ vs.size = n ∧ vs.all (·.oneCell') = true then Result.ok Next.skip (w.setRow g vs) else wideStoreElse P t g (.agg vs) w
      rw [if_pos hs]
      obtain ⟨h1, h2, h3⟩ := hs
      simp only [wideStore, Instr.storeAt, Instr.sureAddr, Sem.run_bind, Sem.run_pure, Result.andThen_ok, run_storeVar_row w g t' t cs vs hg (by rw [hi, h2]) (by rw [h1, h2]) h3]
    · show _ = if cs.size = n ∧ vs.size = n ∧ vs.all (·.oneCell') = true then Result.ok Next.skip (w.setRow g vs) else wideStoreElse P t g (.agg vs) w
      rw [if_neg hs]; rfl

/-- A result that lies in a block. -/
theorem results_row {fn : Func} {p : Tmp} {t : TypeId} (h : fn.results = #[.cell p t]) {d : TypeDesc} (n : Nat) (hu : P.underlying t = some d) (hd : (match d with | .struct _ | .array _ _ => true | _ => false) = true) (hi : (P.info? t).map (·.size) = some n)
    {tmps : Array Value} {w : World} {g : Nat} (hp : tmps.getD p undef = .pointer (some ⟨g, 0, none⟩)) {cs : Array Value} (hg : rowOf w g = some cs) (hs : cs.size = n) : (results fn tmps).run P w = .ok (.agg cs) w := by
  obtain ⟨t', hg'⟩ := rowOf_some hg
  subst hs
  exact results_cell_row h tmps w g t' cs (0, 0) d hp hg' hu hd hi
end
end Go.Proofs.Ytafdcbdbllpcnaa
