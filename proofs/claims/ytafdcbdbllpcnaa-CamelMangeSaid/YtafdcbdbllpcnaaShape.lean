/- The shape of the arguments: a breed, an animal and a day by value are their numbers. -/
import Derived.Test.YtafdcbdbllpcnaaRows
import Derived.Test.YtafdcbdbllpcnaaSpec
import Derived.ProofKit
import Derived.OpenShut
namespace Go.Proofs.Ytafdcbdbllpcnaa
open Go.ChangeShapes Go.WideShapes Go.ChangeAt Go.RowKit
open Go.Proofs

theorem cell_int {P : Program} {w : World} {r : Reach} {base : Nat} {t : TypeId} {k : IntKind} {v : Value} (ht : P.underlying t = some (.int k)) (h : Cell.okWide P w r base t v) : ∃ n, v = .int k n := by
  simp only [Cell.okWide, ht] at h
  cases v <;> simp_all [Cell.ok]
theorem cell_bool {P : Program} {w : World} {r : Reach} {base : Nat} {t : TypeId} {v : Value} (ht : P.underlying t = some .bool) (h : Cell.okWide P w r base t v) : ∃ b, v = .bool b := by
  simp only [Cell.okWide, ht] at h
  cases v <;> simp_all [Cell.ok]

set_option maxRecDepth 100000 in
/-- The cells of a struct by value. -/
theorem shape_cells {w : World} {r : Reach} {base : Nat} {t : TypeId} {v : Value} {fs : Array Field} {ts : List TypeId} (n : Nat) (hu : Try.prog.underlying t = some (.struct fs)) (hn : Try.prog.cellsOf t = n) (hts : Try.prog.cellTypes Try.prog.depth t = some ts) (hl : ts.length = n) (h : Value.okWide Try.prog w r base t v) :
    ∃ cs : Array Value, v = .agg cs ∧ cs.size = n ∧ ∀ i, i < n → ∃ c u, cs[i]? = some c ∧ ts[i]? = some u ∧ Cell.okWide Try.prog w r base u c := by
  simp only [Value.okWide, hu] at h
  obtain ⟨cs, rfl, hsz, ts', hts', -, hc⟩ := h
  rw [hts] at hts'
  obtain rfl := Option.some.inj hts'
  refine ⟨cs, rfl, hsz.trans hn, fun i hi => ?_⟩
  have hi' : i < cs.size := by omega
  obtain ⟨u, h1, h2⟩ := hc i cs[i] (Array.getElem?_eq_getElem hi')
  rw [Nat.mod_eq_of_lt (by omega)] at h1
  exact ⟨cs[i], u, Array.getElem?_eq_getElem hi', h1, h2⟩

theorem ints_of {cs : Array Value} {n : Nat} (h : ∀ i, i < n → ∃ m : Int, cs[i]? = some (.int .i64 m)) : ∃ f : Nat → Int, ∀ i, i < n → cs[i]? = some (.int .i64 (f i)) := by
  refine ⟨fun i => if hi : i < n then Classical.choose (h i hi) else 0, fun i hi => ?_⟩
  simp only [hi, dif_pos]
  exact Classical.choose_spec (h i hi)

theorem cells_eq {cs : Array Value} (l : List Value) (hs : cs.size = l.length) (h : ∀ i, i < l.length → cs[i]? = l[i]?) : cs = l.toArray := by
  apply Array.ext_getElem?
  intro i
  by_cases hi : i < l.length
  · rw [h i hi]; simp
  · rw [Array.getElem?_eq_none (by omega), Array.getElem?_eq_none (by simp; omega)]

set_option maxRecDepth 100000
theorem types36 : Try.prog.cellTypes Try.prog.depth 36 = some (List.replicate 17 3) := by kernel_rfl
theorem types45 : Try.prog.cellTypes Try.prog.depth 45 = some (List.replicate 8 3) := by kernel_rfl
theorem types39 : Try.prog.cellTypes Try.prog.depth 39 = some [3, 3, 3, 3, 3, 3, 4] := by kernel_rfl

theorem shapeB {w : World} {r : Reach} {base : Nat} {v : Value} (h : Value.okWide Try.prog w r base 36 v) : ∃ b : Br, v = .agg #[.int .i64 b.full, .int .i64 b.fed, .int .i64 b.rest.1, .int .i64 b.rest.2, .int .i64 b.heat.1, .int .i64 b.heat.2, .int .i64 b.toil.1, .int .i64 b.toil.2, .int .i64 b.burn.1, .int .i64 b.burn.2, .int .i64 b.rub.1, .int .i64 b.rub.2, .int .i64 b.milk.1, .int .i64 b.milk.2, .int .i64 b.heal, .int .i64 b.strong.1, .int .i64 b.strong.2] := by
  obtain ⟨cs, rfl, hs, hc⟩ := shape_cells 17 Try.underlying36 (by kernel_rfl) types36 (by simp) h
  obtain ⟨f, hf⟩ := ints_of (cs := cs) (n := 17) fun i hi => by
    obtain ⟨c, u, h1, h2, h3⟩ := hc i hi
    rw [List.getElem?_replicate, if_pos hi] at h2
    obtain rfl := Option.some.inj h2
    obtain ⟨n, rfl⟩ := cell_int Try.underlying3 h3
    exact ⟨n, h1⟩
  refine ⟨⟨f 0, f 1, (f 2, f 3), (f 4, f 5), (f 6, f 7), (f 8, f 9), (f 10, f 11), (f 12, f 13), f 14, (f 15, f 16)⟩, ?_⟩
  have e := cells_eq (cs := cs) ((List.range 17).map fun i => .int .i64 (f i)) (by simpa using hs) (fun i hi => by
    simp only [List.length_map, List.length_range] at hi
    rw [hf i hi]; simp [hi])
  subst e
  rfl
theorem shapeM {w : World} {r : Reach} {base : Nat} {v : Value} (h : Value.okWide Try.prog w r base 45 v) : ∃ m : Mr, v = .agg #[.int .i64 m.hours, .int .i64 m.load, .int .i64 m.heat.1, .int .i64 m.heat.2, .int .i64 m.grass.1, .int .i64 m.grass.2, .int .i64 m.drinks.1, .int .i64 m.drinks.2] := by
  obtain ⟨cs, rfl, hs, hc⟩ := shape_cells 8 Try.underlying45 (by kernel_rfl) types45 (by simp) h
  obtain ⟨f, hf⟩ := ints_of (cs := cs) (n := 8) fun i hi => by
    obtain ⟨c, u, h1, h2, h3⟩ := hc i hi
    rw [List.getElem?_replicate, if_pos hi] at h2
    obtain rfl := Option.some.inj h2
    obtain ⟨n, rfl⟩ := cell_int Try.underlying3 h3
    exact ⟨n, h1⟩
  refine ⟨⟨f 0, f 1, (f 2, f 3), (f 4, f 5), (f 6, f 7)⟩, ?_⟩
  have e := cells_eq (cs := cs) ((List.range 8).map fun i => .int .i64 (f i)) (by simpa using hs) (fun i hi => by
    simp only [List.length_map, List.length_range] at hi
    rw [hf i hi]; simp [hi])
  subst e
  rfl
theorem shapeC {w : World} {r : Reach} {base : Nat} {v : Value} (h : Value.okWide Try.prog w r base 39 v) : ∃ c : Cm, v = .agg #[.int .i64 c.water.1, .int .i64 c.water.2, .int .i64 c.fat.1, .int .i64 c.fat.2, .int .i64 c.sore.1, .int .i64 c.sore.2, .bool c.milks] := by
  obtain ⟨cs, rfl, hs, hc⟩ := shape_cells 7 Try.underlying39 (by kernel_rfl) types39 (by simp) h
  obtain ⟨f, hf⟩ := ints_of (cs := cs) (n := 6) fun i hi => by
    obtain ⟨c, u, h1, h2, h3⟩ := hc i (by omega)
    have hu : [3, 3, 3, 3, 3, 3, 4][i]? = some 3 := by
      match i, hi with
      | 0, _ => rfl
      | 1, _ => rfl
      | 2, _ => rfl
      | 3, _ => rfl
      | 4, _ => rfl
      | 5, _ => rfl
    rw [hu] at h2
    obtain rfl := Option.some.inj h2
    obtain ⟨n, rfl⟩ := cell_int Try.underlying3 h3
    exact ⟨n, h1⟩
  obtain ⟨c, u, h1, h2, h3⟩ := hc 6 (by omega)
  obtain rfl : 4 = u := Option.some.inj h2
  obtain ⟨k, rfl⟩ := cell_bool Try.underlying4 h3
  refine ⟨⟨(f 0, f 1), (f 2, f 3), (f 4, f 5), k⟩, ?_⟩
  have e := cells_eq (cs := cs) ((List.range 6).map (fun i => .int .i64 (f i)) ++ [.bool k]) (by simpa using hs) (fun i hi => by
    simp only [List.length_append, List.length_map, List.length_range, List.length_cons, List.length_nil] at hi
    by_cases h6 : i < 6
    · rw [hf i h6, List.getElem?_append_left (by simpa using h6)]; simp [h6]
    · obtain rfl : i = 6 := by omega
      rw [h1]; simp)
  subst e
  rfl
end Go.Proofs.Ytafdcbdbllpcnaa
