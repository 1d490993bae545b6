/- What the walks of the outright properties share. -/
import Derived.Test.YtafdcbdbllpcnaaLeafO
import Derived.Test.YtafdcbdbllpcnaaLawPick
import Derived.Test.YtafdcbdbllpcnaaLeafL
import Derived.Test.YtafdcbdbllpcnaaLeafI
import Derived.Test.YtafdcbdbllpcnaaRefA
import Derived.Test.YtafdcbdbllpcnaaRows
import Derived.Test.YtafdcbdbllpcnaaBigT
import Derived.ProofKit
import Derived.OpenShut
import Derived.Test.YtafdcbdbllpcnaaMtCl
import Derived.Deep.Slices
import Derived.ChangeArms
set_option linter.unusedVariables false
set_option linter.unusedSimpArgs false
namespace Go.Proofs.Ytafdcbdbllpcnaa
open Go.RowKit
open Go.Proofs

theorem rdyS_one {b : Br} {c : Cm} {m : Mr} (h : rdyS b c [m] = true) : chkC b c = 0 ∧ okM m = true := by
  simp only [rdyS, Bool.and_eq_true, decide_eq_true_eq, List.all_cons, List.all_nil, Bool.and_true] at h
  exact ⟨h.1.1, h.2⟩
theorem okM_of {m : Mr} (h : BdM m) : okM m = true := by
  obtain ⟨⟨a1, a2⟩, ⟨a3, a4⟩, ⟨a5, a6, a7⟩, ⟨a8, a9, a10⟩, ⟨a11, a12, a13⟩⟩ := h
  simp [okM, inB, okSpan, a1, a2, a3, a4, a5, a6, a7, a8, a9, a10, a11, a12, a13]

theorem After_x (b : Br) (c : Cm) (m : Mr) (p : Cm) (f x : Int) (hp : aftC b c m = p) (hf : aftF b c m = f) (hx : chkA b c m = x) (w : World) :
    Calls Try.prog 25 #[.agg #[.int .i64 b.full, .int .i64 b.fed, .int .i64 b.rest.1, .int .i64 b.rest.2, .int .i64 b.heat.1, .int .i64 b.heat.2, .int .i64 b.toil.1, .int .i64 b.toil.2, .int .i64 b.burn.1, .int .i64 b.burn.2, .int .i64 b.rub.1, .int .i64 b.rub.2, .int .i64 b.milk.1, .int .i64 b.milk.2, .int .i64 b.heal, .int .i64 b.strong.1, .int .i64 b.strong.2], .agg #[.int .i64 c.water.1, .int .i64 c.water.2, .int .i64 c.fat.1, .int .i64 c.fat.2, .int .i64 c.sore.1, .int .i64 c.sore.2, .bool c.milks], .agg #[.int .i64 m.hours, .int .i64 m.load, .int .i64 m.heat.1, .int .i64 m.heat.2, .int .i64 m.grass.1, .int .i64 m.grass.2, .int .i64 m.drinks.1, .int .i64 m.drinks.2]] w fun e w' => e = .returned (.tuple #[.agg #[.int .i64 p.water.1, .int .i64 p.water.2, .int .i64 p.fat.1, .int .i64 p.fat.2, .int .i64 p.sore.1, .int .i64 p.sore.2, .bool p.milks], .int .u8 f, .int .i64 x]) ∧ Below w.heap.size w w' := by
  subst hp hf hx; exact After_any b c m w
theorem tmod_x {a k q : Int} (h0 : 0 ≤ a) (hq : a % k = q) : Int.tmod a k = q := by rw [Int.tmod_eq_emod_of_nonneg h0, hq]
theorem emod_in {a k q : Int} (hk : 0 < k) (hq : a % k = q) : 0 ≤ q ∧ q < k := by
  subst hq
  exact ⟨Int.emod_nonneg _ (by omega), Int.emod_lt_of_pos _ hk⟩
theorem Carries_x (b : Br) (c : Cm) (f : Int × Int) (x : Int) (hf : carR b c = f) (hx : chkC b c = x) (w : World) :
    Calls Try.prog 28 #[.agg #[.int .i64 b.full, .int .i64 b.fed, .int .i64 b.rest.1, .int .i64 b.rest.2, .int .i64 b.heat.1, .int .i64 b.heat.2, .int .i64 b.toil.1, .int .i64 b.toil.2, .int .i64 b.burn.1, .int .i64 b.burn.2, .int .i64 b.rub.1, .int .i64 b.rub.2, .int .i64 b.milk.1, .int .i64 b.milk.2, .int .i64 b.heal, .int .i64 b.strong.1, .int .i64 b.strong.2], .agg #[.int .i64 c.water.1, .int .i64 c.water.2, .int .i64 c.fat.1, .int .i64 c.fat.2, .int .i64 c.sore.1, .int .i64 c.sore.2, .bool c.milks]] w fun e w' => e = .returned (.tuple #[.agg #[.int .i64 f.1, .int .i64 f.2], .int .i64 x]) ∧ Below w.heap.size w w' := by
  subst hf hx; exact Carries_any b c w
theorem Fitness_x (b : Br) (c : Cm) (f : Int × Int) (x : Int) (hf : fitR b c = f) (hx : chkC b c = x) (w : World) :
    Calls Try.prog 23 #[.agg #[.int .i64 b.full, .int .i64 b.fed, .int .i64 b.rest.1, .int .i64 b.rest.2, .int .i64 b.heat.1, .int .i64 b.heat.2, .int .i64 b.toil.1, .int .i64 b.toil.2, .int .i64 b.burn.1, .int .i64 b.burn.2, .int .i64 b.rub.1, .int .i64 b.rub.2, .int .i64 b.milk.1, .int .i64 b.milk.2, .int .i64 b.heal, .int .i64 b.strong.1, .int .i64 b.strong.2], .agg #[.int .i64 c.water.1, .int .i64 c.water.2, .int .i64 c.fat.1, .int .i64 c.fat.2, .int .i64 c.sore.1, .int .i64 c.sore.2, .bool c.milks]] w fun e w' => e = .returned (.tuple #[.agg #[.int .i64 f.1, .int .i64 f.2], .int .i64 x]) ∧ Below w.heap.size w w' := by
  subst hf hx; exact Fitness_any b c w
theorem Cost_x (b : Br) (k : Bool) (m : Mr) (y z : Int × Int) (x : Int) (hy : coW b k m = y) (hz : coF b m = z) (hx : chkM b m = x) (w : World) :
    Calls Try.prog 24 #[.agg #[.int .i64 b.full, .int .i64 b.fed, .int .i64 b.rest.1, .int .i64 b.rest.2, .int .i64 b.heat.1, .int .i64 b.heat.2, .int .i64 b.toil.1, .int .i64 b.toil.2, .int .i64 b.burn.1, .int .i64 b.burn.2, .int .i64 b.rub.1, .int .i64 b.rub.2, .int .i64 b.milk.1, .int .i64 b.milk.2, .int .i64 b.heal, .int .i64 b.strong.1, .int .i64 b.strong.2], .bool k, .agg #[.int .i64 m.hours, .int .i64 m.load, .int .i64 m.heat.1, .int .i64 m.heat.2, .int .i64 m.grass.1, .int .i64 m.grass.2, .int .i64 m.drinks.1, .int .i64 m.drinks.2]] w fun e w' => e = .returned (.tuple #[.agg #[.int .i64 y.1, .int .i64 y.2], .agg #[.int .i64 z.1, .int .i64 z.2], .int .i64 x]) ∧ Below w.heap.size w w' := by
  subst hy hz hx; exact Cost_any b k m w
end Go.Proofs.Ytafdcbdbllpcnaa
/- The shape of the arguments: a breed, an animal and a day by value are their numbers. -/
namespace Go.Proofs.Ytafdcbdbllpcnaa
open Go.ChangeShapes Go.WideShapes Go.ChangeAt Go.RowKit
open Go.Proofs

theorem cell_int {P : Program} {w : World} {r : Reach} {base : Nat} {t : TypeId} {k : IntKind} {v : Value} (ht : P.underlying t = some (.int k)) (h : Cell.okWide P w r base t v) : ∃ n, v = .int k n := by
  simp only [Cell.okWide, ht] at h
  cases v <;> simp_all [Cell.ok]
theorem cell_bool {P : Program} {w : World} {r : Reach} {base : Nat} {t : TypeId} {v : Value} (ht : P.underlying t = some .bool) (h : Cell.okWide P w r base t v) : ∃ b, v = .bool b := by
  simp only [Cell.okWide, ht] at h
  cases v <;> simp_all [Cell.ok]

set_option maxRecDepth 100000 in
/-- The cells of a struct by value. -/
theorem shape_cells {w : World} {r : Reach} {base : Nat} {t : TypeId} {v : Value} {fs : Array Field} {ts : List TypeId} (n : Nat) (hu : Try.prog.underlying t = some (.struct fs)) (hn : Try.prog.cellsOf t = n) (hts : Try.prog.cellTypes Try.prog.depth t = some ts) (hl : ts.length = n) (h : Value.okWide Try.prog w r base t v) :
    ∃ cs : Array Value, v = .agg cs ∧ cs.size = n ∧ ∀ i, i < n → ∃ c u, cs[i]? = some c ∧ ts[i]? = some u ∧ Cell.okWide Try.prog w r base u c := by
  simp only [Value.okWide, hu] at h
  obtain ⟨cs, rfl, hsz, ts', hts', -, hc⟩ := h
  rw [hts] at hts'
  obtain rfl := Option.some.inj hts'
  refine ⟨cs, rfl, hsz.trans hn, fun i hi => ?_⟩
  have hi' : i < cs.size := by omega
  obtain ⟨u, h1, h2⟩ := hc i cs[i] (Array.getElem?_eq_getElem hi')
  rw [Nat.mod_eq_of_lt (by omega)] at h1
  exact ⟨cs[i], u, Array.getElem?_eq_getElem hi', h1, h2⟩

theorem ints_of {cs : Array Value} {n : Nat} (h : ∀ i, i < n → ∃ m : Int, cs[i]? = some (.int .i64 m)) : ∃ f : Nat → Int, ∀ i, i < n → cs[i]? = some (.int .i64 (f i)) := by
  refine ⟨fun i => if hi : i < n then Classical.choose (h i hi) else 0, fun i hi => ?_⟩
  simp only [hi, dif_pos]
  exact Classical.choose_spec (h i hi)

theorem cells_eq {cs : Array Value} (l : List Value) (hs : cs.size = l.length) (h : ∀ i, i < l.length → cs[i]? = l[i]?) : cs = l.toArray := by
  apply Array.ext_getElem?
  intro i
  by_cases hi : i < l.length
  · rw [h i hi]; simp
  · rw [Array.getElem?_eq_none (by omega), Array.getElem?_eq_none (by simp; omega)]

set_option maxRecDepth 100000
theorem types36 : Try.prog.cellTypes Try.prog.depth 36 = some (List.replicate 17 3) := by kernel_rfl
theorem types45 : Try.prog.cellTypes Try.prog.depth 45 = some (List.replicate 8 3) := by kernel_rfl
theorem types39 : Try.prog.cellTypes Try.prog.depth 39 = some [3, 3, 3, 3, 3, 3, 4] := by kernel_rfl

theorem shapeB {w : World} {r : Reach} {base : Nat} {v : Value} (h : Value.okWide Try.prog w r base 36 v) : ∃ b : Br, v = .agg #[.int .i64 b.full, .int .i64 b.fed, .int .i64 b.rest.1, .int .i64 b.rest.2, .int .i64 b.heat.1, .int .i64 b.heat.2, .int .i64 b.toil.1, .int .i64 b.toil.2, .int .i64 b.burn.1, .int .i64 b.burn.2, .int .i64 b.rub.1, .int .i64 b.rub.2, .int .i64 b.milk.1, .int .i64 b.milk.2, .int .i64 b.heal, .int .i64 b.strong.1, .int .i64 b.strong.2] := by
  obtain ⟨cs, rfl, hs, hc⟩ := shape_cells 17 Try.underlying36 (by kernel_rfl) types36 (by simp) h
  obtain ⟨f, hf⟩ := ints_of (cs := cs) (n := 17) fun i hi => by
    obtain ⟨c, u, h1, h2, h3⟩ := hc i hi
    rw [List.getElem?_replicate, if_pos hi] at h2
    obtain rfl := Option.some.inj h2
    obtain ⟨n, rfl⟩ := cell_int Try.underlying3 h3
    exact ⟨n, h1⟩
  refine ⟨⟨f 0, f 1, (f 2, f 3), (f 4, f 5), (f 6, f 7), (f 8, f 9), (f 10, f 11), (f 12, f 13), f 14, (f 15, f 16)⟩, ?_⟩
  have e := cells_eq (cs := cs) ((List.range 17).map fun i => .int .i64 (f i)) (by simpa using hs) (fun i hi => by
    simp only [List.length_map, List.length_range] at hi
    rw [hf i hi]; simp [hi])
  subst e
  rfl
theorem shapeM {w : World} {r : Reach} {base : Nat} {v : Value} (h : Value.okWide Try.prog w r base 45 v) : ∃ m : Mr, v = .agg #[.int .i64 m.hours, .int .i64 m.load, .int .i64 m.heat.1, .int .i64 m.heat.2, .int .i64 m.grass.1, .int .i64 m.grass.2, .int .i64 m.drinks.1, .int .i64 m.drinks.2] := by
  obtain ⟨cs, rfl, hs, hc⟩ := shape_cells 8 Try.underlying45 (by kernel_rfl) types45 (by simp) h
  obtain ⟨f, hf⟩ := ints_of (cs := cs) (n := 8) fun i hi => by
    obtain ⟨c, u, h1, h2, h3⟩ := hc i hi
    rw [List.getElem?_replicate, if_pos hi] at h2
    obtain rfl := Option.some.inj h2
    obtain ⟨n, rfl⟩ := cell_int Try.underlying3 h3
    exact ⟨n, h1⟩
  refine ⟨⟨f 0, f 1, (f 2, f 3), (f 4, f 5), (f 6, f 7)⟩, ?_⟩
  have e := cells_eq (cs := cs) ((List.range 8).map fun i => .int .i64 (f i)) (by simpa using hs) (fun i hi => by
    simp only [List.length_map, List.length_range] at hi
    rw [hf i hi]; simp [hi])
  subst e
  rfl
theorem shapeC {w : World} {r : Reach} {base : Nat} {v : Value} (h : Value.okWide Try.prog w r base 39 v) : ∃ c : Cm, v = .agg #[.int .i64 c.water.1, .int .i64 c.water.2, .int .i64 c.fat.1, .int .i64 c.fat.2, .int .i64 c.sore.1, .int .i64 c.sore.2, .bool c.milks] := by
  obtain ⟨cs, rfl, hs, hc⟩ := shape_cells 7 Try.underlying39 (by kernel_rfl) types39 (by simp) h
  obtain ⟨f, hf⟩ := ints_of (cs := cs) (n := 6) fun i hi => by
    obtain ⟨c, u, h1, h2, h3⟩ := hc i (by omega)
    have hu : [3, 3, 3, 3, 3, 3, 4][i]? = some 3 := by
      match i, hi with
      | 0, _ => rfl
      | 1, _ => rfl
      | 2, _ => rfl
      | 3, _ => rfl
      | 4, _ => rfl
      | 5, _ => rfl
    rw [hu] at h2
    obtain rfl := Option.some.inj h2
    obtain ⟨n, rfl⟩ := cell_int Try.underlying3 h3
    exact ⟨n, h1⟩
  obtain ⟨c, u, h1, h2, h3⟩ := hc 6 (by omega)
  obtain rfl : 4 = u := Option.some.inj h2
  obtain ⟨k, rfl⟩ := cell_bool Try.underlying4 h3
  refine ⟨⟨(f 0, f 1), (f 2, f 3), (f 4, f 5), k⟩, ?_⟩
  have e := cells_eq (cs := cs) ((List.range 6).map (fun i => .int .i64 (f i)) ++ [.bool k]) (by simpa using hs) (fun i hi => by
    simp only [List.length_append, List.length_map, List.length_range, List.length_cons, List.length_nil] at hi
    by_cases h6 : i < 6
    · rw [hf i h6, List.getElem?_append_left (by simpa using h6)]; simp [h6]
    · obtain rfl : i = 6 := by omega
      rw [h1]; simp)
  subst e
  rfl
end Go.Proofs.Ytafdcbdbllpcnaa
/- The shape of the arguments: lists of days and of animals are lists of their numbers. -/
namespace Go.Proofs.Ytafdcbdbllpcnaa
open Go.ChangeShapes Go.WideShapes Go.ChangeAt Go.RowKit
open Go.Proofs

set_option maxRecDepth 100000
section
variable {H : Type} {enc : TypeId × Value → H} {W : World} {base : Nat} {spare : Nat → Bool} {held : Bool}

theorem cells31 : Try.prog.cellsOf 31 = 2 := by kernel_rfl
theorem cells3 : Try.prog.cellsOf 3 = 1 := by kernel_rfl
theorem cells4 : Try.prog.cellsOf 4 = 1 := by kernel_rfl
theorem cells45 : Try.prog.cellsOf 45 = 8 := by kernel_rfl
theorem cells39 : Try.prog.cellsOf 39 = 7 := by kernel_rfl

theorem trod_span {n : Nat} {cs : List Value} {x : DataW H × List MemPlace} (h : DataW.trod enc Try.prog W base spare held n 31 cs = some x) : ∃ a b, cs = [.int .i64 a, .int .i64 b] := by
  obtain ⟨xs, k, -, -, hl, hxl, hf⟩ := DataW.trod_struct Try.underlying31 h
  rw [cells31] at hl
  match cs, hl with
  | [v0, v1], _ =>
    match xs, hxl with
    | [y0, y1], _ =>
      have g0 := hf 0 _ rfl
      have g1 := hf 1 _ rfl
      simp [cells3] at g0 g1
      obtain ⟨a, ha, -, -⟩ := DataW.trod_int Try.underlying3 g0
      obtain ⟨b, hb, -, -⟩ := DataW.trod_int Try.underlying3 g1
      simp at ha hb
      exact ⟨a, b, by rw [ha, hb]⟩
theorem trod_march {n : Nat} {cs : List Value} {x : DataW H × List MemPlace} (h : DataW.trod enc Try.prog W base spare held n 45 cs = some x) : ∃ m : Mr, cs = marCells m := by
  obtain ⟨xs, k, -, -, hl, hxl, hf⟩ := DataW.trod_struct Try.underlying45 h
  rw [cells45] at hl
  match cs, hl with
  | [v0, v1, v2, v3, v4, v5, v6, v7], _ =>
    match xs, hxl with
    | [y0, y1, y2, y3, y4], _ =>
      have g0 := hf 0 _ rfl
      have g1 := hf 1 _ rfl
      have g2 := hf 2 _ rfl
      have g3 := hf 3 _ rfl
      have g4 := hf 4 _ rfl
      simp [cells3, cells31] at g0 g1 g2 g3 g4
      obtain ⟨a, ha, -, -⟩ := DataW.trod_int Try.underlying3 g0
      obtain ⟨b, hb, -, -⟩ := DataW.trod_int Try.underlying3 g1
      obtain ⟨c0, c1, hc⟩ := trod_span g2
      obtain ⟨d0, d1, hd⟩ := trod_span g3
      obtain ⟨e0, e1, he⟩ := trod_span g4
      simp at ha hb hc hd he
      obtain ⟨rfl, rfl⟩ := hc
      obtain ⟨rfl, rfl⟩ := hd
      obtain ⟨rfl, rfl⟩ := he
      subst ha hb
      exact ⟨⟨a, b, (c0, c1), (d0, d1), (e0, e1)⟩, rfl⟩
theorem trod_camel {n : Nat} {cs : List Value} {x : DataW H × List MemPlace} (h : DataW.trod enc Try.prog W base spare held n 39 cs = some x) : ∃ c : Cm, cs = camCells c := by
  obtain ⟨xs, k, -, -, hl, hxl, hf⟩ := DataW.trod_struct Try.underlying39 h
  rw [cells39] at hl
  match cs, hl with
  | [v0, v1, v2, v3, v4, v5, v6], _ =>
    match xs, hxl with
    | [y0, y1, y2, y3], _ =>
      have g0 := hf 0 _ rfl
      have g1 := hf 1 _ rfl
      have g2 := hf 2 _ rfl
      have g3 := hf 3 _ rfl
      simp [cells4, cells31] at g0 g1 g2 g3
      obtain ⟨c0, c1, hc⟩ := trod_span g0
      obtain ⟨d0, d1, hd⟩ := trod_span g1
      obtain ⟨e0, e1, he⟩ := trod_span g2
      obtain ⟨a, ha, -⟩ := DataW.trod_bool Try.underlying4 g3
      simp at ha hc hd he
      obtain ⟨rfl, rfl⟩ := hc
      obtain ⟨rfl, rfl⟩ := hd
      obtain ⟨rfl, rfl⟩ := he
      subst ha
      exact ⟨⟨(c0, c1), (d0, d1), (e0, e1), a⟩, rfl⟩

/-- A slice that came in: nil, or so many elements behind an address. -/
theorem okWide_slice {t e : TypeId} {v : Value} {r : Reach} (ht : Try.prog.underlying t = some (.slice e)) (hv : Value.okWide Try.prog W r base t v) : v = .slice none 0 0 ∨ ∃ b off len cap, v = .slice (some ⟨b, off, none⟩) len cap ∧ len ≤ cap ∧ b < W.heap.size := by
  simp only [Value.okWide, ht, Cell.okWide, Cell.ok] at hv
  cases v with
  | slice a len cap =>
    cases a with
    | none =>
      cases len with
      | zero =>
        cases cap with
        | zero => exact .inl rfl
        | succ n => exact hv.elim
      | succ n => exact hv.elim
    | some a =>
      obtain ⟨h1, -, -, h2, row, cells, h3, -⟩ := hv
      obtain ⟨b, off, spot⟩ := a
      simp only at h2
      subst h2
      refine .inr ⟨b, off, len, cap, rfl, h1, ?_⟩
      rcases Nat.lt_or_ge b W.heap.size with h | h
      · exact h
      · have hn : W.heap[b]? = none := Array.getElem?_eq_none h
        simp [World.shape?, hn] at h3
  | _ => exact hv.elim

theorem choose_list {α : Type} (n : Nat) (p : Nat → α → Prop) (h : ∀ i, i < n → ∃ x, p i x) : ∃ l : List α, l.length = n ∧ ∀ i (hi : i < l.length), p i l[i] := by
  induction n with
  | zero => exact ⟨[], rfl, fun i hi => by simp at hi⟩
  | succ n ih =>
    obtain ⟨l, hl, hp⟩ := ih (fun i hi => h i (by omega))
    obtain ⟨x, hx⟩ := h n (by omega)
    refine ⟨l ++ [x], by simp [hl], fun i hi => ?_⟩
    by_cases hil : i < l.length
    · rw [List.getElem_append_left hil]; exact hp i hil
    · obtain rfl : i = l.length := by simp at hi; omega
      simp
      rw [hl]; exact hx

theorem shapeDays {v : Value} {d : DataW H} {ps : List MemPlace} {b0 : Nat} (hv : Value.okWide Try.prog W .any b0 47 v) (h : DataW.Trod enc Try.prog W base (fun _ => true) held 47 v d ps) : ∃ a cap ms, v = .slice a ms.length cap ∧ DaysIn W a cap ms := by
  rcases okWide_slice Try.underlying47 hv with rfl | ⟨b, off, len, cap, rfl, hlc, hb⟩
  · exact ⟨none, 0, [], rfl, .inl ⟨rfl, rfl, rfl⟩⟩
  · obtain ⟨fuel, h⟩ := h
    rcases Go.Deep.open_slice Try.underlying47 h with ⟨h, -⟩ | ⟨a, len', cap', m, n, D, Pl, he, -, -, -, hm, hx, hel⟩
    · simp [Value.cells] at h
    · simp [Value.cells] at he
      obtain ⟨rfl, rfl, rfl⟩ := he
      simp at hm
      subst hm
      obtain ⟨ms, hl, hms⟩ := choose_list len (fun i (m : Mr) => MarchAt W b (off + i * 8) m) (fun i hi => by
        obtain ⟨cs, h1, h2⟩ := hel i (by omega)
        obtain ⟨m, rfl⟩ := trod_march h2
        refine ⟨m, ?_⟩
        rw [cells45] at h1
        obtain ⟨-, -, hc⟩ := World.cells?_some h1
        have k : ∀ j, j < 8 → W.cell? ⟨b, off + i * 8 + j, none⟩ = (marCells m)[j]? := by
          intro j hj
          have := hc j hj
          rw [add_none, add_none] at this
          exact this
        exact ⟨k 0 (by omega), k 1 (by omega), k 2 (by omega), k 3 (by omega), k 4 (by omega), k 5 (by omega), k 6 (by omega), k 7 (by omega)⟩)
      exact ⟨some ⟨b, off, none⟩, _, ms, by rw [hl], .inr ⟨b, off, rfl, hms, hb⟩⟩
theorem shapeHerd {v : Value} {d : DataW H} {ps : List MemPlace} {b0 : Nat} (hv : Value.okWide Try.prog W .any b0 41 v) (h : DataW.Trod enc Try.prog W base (fun _ => true) held 41 v d ps) : ∃ a cap ms, v = .slice a ms.length cap ∧ HerdIn W a cap ms := by
  rcases okWide_slice Try.underlying41 hv with rfl | ⟨b, off, len, cap, rfl, hlc, hb⟩
  · exact ⟨none, 0, [], rfl, .inl ⟨rfl, rfl, rfl⟩⟩
  · obtain ⟨fuel, h⟩ := h
    rcases Go.Deep.open_slice Try.underlying41 h with ⟨h, -⟩ | ⟨a, len', cap', m, n, D, Pl, he, -, -, -, hm, hx, hel⟩
    · simp [Value.cells] at h
    · simp [Value.cells] at he
      obtain ⟨rfl, rfl, rfl⟩ := he
      simp at hm
      subst hm
      obtain ⟨ms, hl, hms⟩ := choose_list len (fun i (m : Cm) => CamelAt W b (off + i * 7) m) (fun i hi => by
        obtain ⟨cs, h1, h2⟩ := hel i (by omega)
        obtain ⟨m, rfl⟩ := trod_camel h2
        refine ⟨m, ?_⟩
        rw [cells39] at h1
        obtain ⟨-, -, hc⟩ := World.cells?_some h1
        have k : ∀ j, j < 7 → W.cell? ⟨b, off + i * 7 + j, none⟩ = (camCells m)[j]? := by
          intro j hj
          have := hc j hj
          rw [add_none, add_none] at this
          exact this
        exact ⟨k 0 (by omega), k 1 (by omega), k 2 (by omega), k 3 (by omega), k 4 (by omega), k 5 (by omega), k 6 (by omega)⟩)
      exact ⟨some ⟨b, off, none⟩, _, ms, by rw [hl], .inr ⟨b, off, rfl, hms, hb⟩⟩
end
end Go.Proofs.Ytafdcbdbllpcnaa
