/- The examples' breed, animal, day and meetings; what is told of them. -/
import Derived.Test.YtafdcbdbllpcnaaMangU
import Derived.Test.YtafdcbdbllpcnaaLeafI
import Derived.Test.YtafdcbdbllpcnaaLeafL
import Derived.Test.YtafdcbdbllpcnaaLawPick
import Derived.Test.YtafdcbdbllpcnaaRefA
import Derived.Test.YtafdcbdbllpcnaaMtCl
import Derived.Test.YtafdcbdbllpcnaaLasS
set_option linter.unusedVariables false
set_option linter.unusedSimpArgs false
namespace Go.Proofs.Ytafdcbdbllpcnaa
open Go.RowKit
open Go.Proofs

attribute [local go_sem ↓] exec36l exec112l exec36s exec112s exec31s run_min2 run_max2
attribute [local go_sem] load36 load112 store36 store112 store31 build112 rowOf_alloc rowOf_drew setRow_alloc one_int one_bool run_min4
attribute [local go_sem ↓] exec45s exec39s
attribute [local go_sem] store45 store39

def brE : Br := ⟨100000, 50000, (2000, 2500), (100, 100), (200, 250), (40, 50), (100, 200), (1000, 1500), 50, (150000, 200000)⟩
def cmE : Cm := ⟨(60000, 70000), (20000, 30000), (0, 100), false⟩
def mrE : Mr := ⟨10, 100000, (30, 40), (0, 0), (0, 0)⟩
theorem build36 (a b h : Int) (x0 x1 x2 x3 x4 x5 x6 x7 x8 x9 x10 x11 x12 x13 : Int) (w : World) :
    (Instr.build 36 #[(0, .int .i64 a), (1, .int .i64 b), (2, .agg #[.int .i64 x0, .int .i64 x1]), (3, .agg #[.int .i64 x2, .int .i64 x3]), (4, .agg #[.int .i64 x4, .int .i64 x5]), (5, .agg #[.int .i64 x6, .int .i64 x7]), (6, .agg #[.int .i64 x8, .int .i64 x9]), (7, .agg #[.int .i64 x10, .int .i64 x11]), (8, .int .i64 h), (9, .agg #[.int .i64 x12, .int .i64 x13])]).run Try.prog w = .ok (.agg #[.int .i64 a, .int .i64 b, .int .i64 x0, .int .i64 x1, .int .i64 x2, .int .i64 x3, .int .i64 x4, .int .i64 x5, .int .i64 x6, .int .i64 x7, .int .i64 x8, .int .i64 x9, .int .i64 x10, .int .i64 x11, .int .i64 h, .int .i64 x12, .int .i64 x13]) w := by kernel_rfl
theorem build39_3 (a b c d e f : Int) (w : World) : (Instr.build 39 #[(0, .agg #[.int .i64 a, .int .i64 b]), (1, .agg #[.int .i64 c, .int .i64 d]), (2, .agg #[.int .i64 e, .int .i64 f])]).run Try.prog w = .ok (.agg #[.int .i64 a, .int .i64 b, .int .i64 c, .int .i64 d, .int .i64 e, .int .i64 f, .bool false]) w := by kernel_rfl
theorem build45_3 (a b c d : Int) (w : World) : (Instr.build 45 #[(0, .int .i64 a), (1, .int .i64 b), (2, .agg #[.int .i64 c, .int .i64 d])]).run Try.prog w = .ok (.agg #[.int .i64 a, .int .i64 b, .int .i64 c, .int .i64 d, .int .i64 0, .int .i64 0, .int .i64 0, .int .i64 0]) w := by kernel_rfl
attribute [local go_sem] build36 build39_3 build45_3
theorem res36 {fn : Func} {p : Tmp} (h : fn.results = #[.cell p 36]) {tmps : Array Value} {w : World} {g : Nat} (hp : tmps.getD p undef = .pointer (some ⟨g, 0, none⟩)) {cs : Array Value} (hg : rowOf w g = some cs) (hs : cs.size = 17) : (results fn tmps).run Try.prog w = .ok (.agg cs) w :=
  results_row h 17 Try.underlying36 rfl (by kernel_rfl) hp hg hs
theorem res45 {fn : Func} {p : Tmp} (h : fn.results = #[.cell p 45]) {tmps : Array Value} {w : World} {g : Nat} (hp : tmps.getD p undef = .pointer (some ⟨g, 0, none⟩)) {cs : Array Value} (hg : rowOf w g = some cs) (hs : cs.size = 8) : (results fn tmps).run Try.prog w = .ok (.agg cs) w :=
  results_row h 8 Try.underlying45 rfl (by kernel_rfl) hp hg hs

set_option maxHeartbeats 2000000 in
theorem breed_any (w : World) : Calls Try.prog 19 #[] w fun e w' => e = .returned (.agg #[.int .i64 brE.full, .int .i64 brE.fed, .int .i64 brE.rest.1, .int .i64 brE.rest.2, .int .i64 brE.heat.1, .int .i64 brE.heat.2, .int .i64 brE.toil.1, .int .i64 brE.toil.2, .int .i64 brE.burn.1, .int .i64 brE.burn.2, .int .i64 brE.rub.1, .int .i64 brE.rub.2, .int .i64 brE.milk.1, .int .i64 brE.milk.2, .int .i64 brE.heal, .int .i64 brE.strong.1, .int .i64 brE.strong.2]) ∧ Below w.heap.size w w' := by
  go_enter Try.func19, Try.ntmps19
  go_wp2_with fail
  refine (span_any 2000 2500 _).mono ?_
  rintro e W1 ⟨rfl, hB⟩
  have hW1 : Below w.heap.size w W1 := Below.trans (by go_grown) (hB.mono (by simp; try omega))
  have zW1 := hW1.size
  obtain ⟨rrW1, crW1, grW1, zrW1⟩ := keep_row hB (g := w.heap.size) (by repeat (first | with_reducible assumption | with_reducible apply row_here0 | with_reducible apply row_here1 | with_reducible apply row_here2 | with_reducible apply row_here3 | with_reducible apply rowSkip))
  clear hB
  go_wp2_with fail
  refine (span_any 100 100 _).mono ?_
  rintro e W2 ⟨rfl, hB⟩
  have hW2 : Below w.heap.size w W2 := hW1.trans (Below.trans (by have := hW1.size; go_grown) (hB.mono (by have := hW1.size; simp; try omega)))
  have zW2 := hW2.size
  obtain ⟨rrW2, crW2, grW2, zrW2⟩ := keep_row hB (g := w.heap.size) (by repeat (first | with_reducible assumption | with_reducible apply row_here0 | with_reducible apply row_here1 | with_reducible apply row_here2 | with_reducible apply row_here3 | with_reducible apply rowSkip))
  clear hB
  clear rrW1 crW1 grW1
  go_wp2_with fail
  refine (span_any 200 250 _).mono ?_
  rintro e W3 ⟨rfl, hB⟩
  have hW3 : Below w.heap.size w W3 := hW2.trans (Below.trans (by have := hW2.size; go_grown) (hB.mono (by have := hW2.size; simp; try omega)))
  have zW3 := hW3.size
  obtain ⟨rrW3, crW3, grW3, zrW3⟩ := keep_row hB (g := w.heap.size) (by repeat (first | with_reducible assumption | with_reducible apply row_here0 | with_reducible apply row_here1 | with_reducible apply row_here2 | with_reducible apply row_here3 | with_reducible apply rowSkip))
  clear hB
  clear rrW2 crW2 grW2
  go_wp2_with fail
  refine (span_any 40 50 _).mono ?_
  rintro e W4 ⟨rfl, hB⟩
  have hW4 : Below w.heap.size w W4 := hW3.trans (Below.trans (by have := hW3.size; go_grown) (hB.mono (by have := hW3.size; simp; try omega)))
  have zW4 := hW4.size
  obtain ⟨rrW4, crW4, grW4, zrW4⟩ := keep_row hB (g := w.heap.size) (by repeat (first | with_reducible assumption | with_reducible apply row_here0 | with_reducible apply row_here1 | with_reducible apply row_here2 | with_reducible apply row_here3 | with_reducible apply rowSkip))
  clear hB
  clear rrW3 crW3 grW3
  go_wp2_with fail
  refine (span_any 100 200 _).mono ?_
  rintro e W5 ⟨rfl, hB⟩
  have hW5 : Below w.heap.size w W5 := hW4.trans (Below.trans (by have := hW4.size; go_grown) (hB.mono (by have := hW4.size; simp; try omega)))
  have zW5 := hW5.size
  obtain ⟨rrW5, crW5, grW5, zrW5⟩ := keep_row hB (g := w.heap.size) (by repeat (first | with_reducible assumption | with_reducible apply row_here0 | with_reducible apply row_here1 | with_reducible apply row_here2 | with_reducible apply row_here3 | with_reducible apply rowSkip))
  clear hB
  clear rrW4 crW4 grW4
  go_wp2_with fail
  refine (span_any 1000 1500 _).mono ?_
  rintro e W6 ⟨rfl, hB⟩
  have hW6 : Below w.heap.size w W6 := hW5.trans (Below.trans (by have := hW5.size; go_grown) (hB.mono (by have := hW5.size; simp; try omega)))
  have zW6 := hW6.size
  obtain ⟨rrW6, crW6, grW6, zrW6⟩ := keep_row hB (g := w.heap.size) (by repeat (first | with_reducible assumption | with_reducible apply row_here0 | with_reducible apply row_here1 | with_reducible apply row_here2 | with_reducible apply row_here3 | with_reducible apply rowSkip))
  clear hB
  clear rrW5 crW5 grW5
  go_wp2_with fail
  refine (span_any 150000 200000 _).mono ?_
  rintro e W7 ⟨rfl, hB⟩
  have hW7 : Below w.heap.size w W7 := hW6.trans (Below.trans (by have := hW6.size; go_grown) (hB.mono (by have := hW6.size; simp; try omega)))
  have zW7 := hW7.size
  obtain ⟨rrW7, crW7, grW7, zrW7⟩ := keep_row hB (g := w.heap.size) (by repeat (first | with_reducible assumption | with_reducible apply row_here0 | with_reducible apply row_here1 | with_reducible apply row_here2 | with_reducible apply row_here3 | with_reducible apply rowSkip))
  clear hB
  clear rrW6 crW6 grW6
  go_wp2
  exact bodyPost_ret (res36 Try.results19 rfl (stored_setRow rrW7 _).row rfl) rfl ⟨rfl, Below_setRow hW7 (Nat.le_refl _) _⟩
set_option maxHeartbeats 2000000 in
theorem animal_any (w : World) : Calls Try.prog 20 #[] w fun e w' => e = .returned (.agg #[.int .i64 cmE.water.1, .int .i64 cmE.water.2, .int .i64 cmE.fat.1, .int .i64 cmE.fat.2, .int .i64 cmE.sore.1, .int .i64 cmE.sore.2, .bool cmE.milks]) ∧ Below w.heap.size w w' := by
  go_enter Try.func20, Try.ntmps20
  go_wp2_with fail
  refine (span_any 60000 70000 _).mono ?_
  rintro e W1 ⟨rfl, hB⟩
  have hW1 : Below w.heap.size w W1 := Below.trans (by go_grown) (hB.mono (by simp; try omega))
  have zW1 := hW1.size
  obtain ⟨rrW1, crW1, grW1, zrW1⟩ := keep_row hB (g := w.heap.size) (by repeat (first | with_reducible assumption | with_reducible apply row_here0 | with_reducible apply row_here1 | with_reducible apply row_here2 | with_reducible apply row_here3 | with_reducible apply rowSkip))
  clear hB
  go_wp2_with fail
  refine (span_any 20000 30000 _).mono ?_
  rintro e W2 ⟨rfl, hB⟩
  have hW2 : Below w.heap.size w W2 := hW1.trans (Below.trans (by have := hW1.size; go_grown) (hB.mono (by have := hW1.size; simp; try omega)))
  have zW2 := hW2.size
  obtain ⟨rrW2, crW2, grW2, zrW2⟩ := keep_row hB (g := w.heap.size) (by repeat (first | with_reducible assumption | with_reducible apply row_here0 | with_reducible apply row_here1 | with_reducible apply row_here2 | with_reducible apply row_here3 | with_reducible apply rowSkip))
  clear hB
  clear rrW1 crW1 grW1
  go_wp2_with fail
  refine (span_any 0 100 _).mono ?_
  rintro e W3 ⟨rfl, hB⟩
  have hW3 : Below w.heap.size w W3 := hW2.trans (Below.trans (by have := hW2.size; go_grown) (hB.mono (by have := hW2.size; simp; try omega)))
  have zW3 := hW3.size
  obtain ⟨rrW3, crW3, grW3, zrW3⟩ := keep_row hB (g := w.heap.size) (by repeat (first | with_reducible assumption | with_reducible apply row_here0 | with_reducible apply row_here1 | with_reducible apply row_here2 | with_reducible apply row_here3 | with_reducible apply rowSkip))
  clear hB
  clear rrW2 crW2 grW2
  go_wp2
  exact bodyPost_ret (res39 Try.results20 rfl (stored_setRow rrW3 _).row rfl) rfl ⟨rfl, Below_setRow hW3 (Nat.le_refl _) _⟩
set_option maxHeartbeats 2000000 in
theorem day_any (w : World) : Calls Try.prog 22 #[] w fun e w' => e = .returned (.agg #[.int .i64 mrE.hours, .int .i64 mrE.load, .int .i64 mrE.heat.1, .int .i64 mrE.heat.2, .int .i64 mrE.grass.1, .int .i64 mrE.grass.2, .int .i64 mrE.drinks.1, .int .i64 mrE.drinks.2]) ∧ Below w.heap.size w w' := by
  go_enter Try.func22, Try.ntmps22
  go_wp2_with fail
  refine (span_any 30 40 _).mono ?_
  rintro e W1 ⟨rfl, hB⟩
  have hW1 : Below w.heap.size w W1 := Below.trans (by go_grown) (hB.mono (by simp; try omega))
  have zW1 := hW1.size
  obtain ⟨rrW1, crW1, grW1, zrW1⟩ := keep_row hB (g := w.heap.size) (by repeat (first | with_reducible assumption | with_reducible apply row_here0 | with_reducible apply row_here1 | with_reducible apply row_here2 | with_reducible apply row_here3 | with_reducible apply rowSkip))
  clear hB
  go_wp2
  exact bodyPost_ret (res45 Try.results22 rfl (stored_setRow rrW1 _).row rfl) rfl ⟨rfl, Below_setRow hW1 (Nat.le_refl _) _⟩
theorem meets_row {W : World} {g : Nat} {ms : List Mt} (h : rowOf W g = some (ms.flatMap mtCells).toArray) (cap : Nat) : MeetsIn W (some ⟨g, 0, none⟩) cap ms := by
  obtain ⟨hc, hf, hz⟩ := cell_of_rowOf h
  refine .inr ⟨g, 0, rfl, fun k hk => ?_, hz⟩
  have key : ∀ i v, (mtCells ms[k])[i]? = some v → W.cell? ⟨g, 0 + k * 4 + i, none⟩ = some v := by
    intro i v hv
    have hi : i < 4 := (List.getElem?_eq_some_iff.1 hv).1
    rw [hc, ← hv, ← flat_at mtCells 4 mt_len ms k i hk hi, List.getElem?_toArray, Nat.zero_add]
  exact ⟨key 0 _ rfl, key 1 _ rfl, key 2 _ rfl, key 3 _ rfl⟩
theorem herd_any (w : World) : Calls Try.prog 16 #[] w fun e w' => (∃ g, e = .returned (.slice (some ⟨g, 0, none⟩) 2 2) ∧ MeetsIn w' (some ⟨g, 0, none⟩) 2 herdM) ∧ Below w.heap.size w w' := by
  go_enter Try.func16, Try.ntmps16
  go_wp2
  go_returns
  exact ⟨⟨_, rfl, meets_row (row_here0 _ _ _) 2⟩, by go_grown⟩

theorem eqs_fit : chkC brE cmE = 0 ∧ fitR brE cmE = (800, 1000) ∧ carR brE cmE = (120000, 200000) := by decide +kernel
theorem eqs_cost : chkM brE mrE = 0 ∧ coW brE false mrE = (7000, 9500) ∧ coF brE mrE = (800, 1000) := by decide +kernel
theorem eq_aft : aftC brE cmE mrE = ⟨(50500, 63000), (19000, 29200), (100, 300), false⟩ := by kernel_rfl
theorem eqs_aft : chkA brE cmE mrE = 0 ∧ aftF brE cmE mrE = 0 := by decide +kernel
theorem eqs_last : chkT brE cmE [mrE] = 0 ∧ lasR brE cmE mrE = (6, 10) := by decide +kernel

theorem fit_x (b : Br) (c : Cm) (hb : b = brE) (hc : c = cmE) (w : World) : Calls Try.prog 23 #[.agg #[.int .i64 b.full, .int .i64 b.fed, .int .i64 b.rest.1, .int .i64 b.rest.2, .int .i64 b.heat.1, .int .i64 b.heat.2, .int .i64 b.toil.1, .int .i64 b.toil.2, .int .i64 b.burn.1, .int .i64 b.burn.2, .int .i64 b.rub.1, .int .i64 b.rub.2, .int .i64 b.milk.1, .int .i64 b.milk.2, .int .i64 b.heal, .int .i64 b.strong.1, .int .i64 b.strong.2], .agg #[.int .i64 c.water.1, .int .i64 c.water.2, .int .i64 c.fat.1, .int .i64 c.fat.2, .int .i64 c.sore.1, .int .i64 c.sore.2, .bool c.milks]] w fun e w' => e = .returned (.tuple #[.agg #[.int .i64 800, .int .i64 1000], .int .i64 0]) ∧ Below w.heap.size w w' := by
  subst hb hc
  have h := Fitness_any brE cmE w
  rw [eqs_fit.1, eqs_fit.2.1] at h
  exact h
theorem car_x (b : Br) (c : Cm) (hb : b = brE) (hc : c = cmE) (w : World) : Calls Try.prog 28 #[.agg #[.int .i64 b.full, .int .i64 b.fed, .int .i64 b.rest.1, .int .i64 b.rest.2, .int .i64 b.heat.1, .int .i64 b.heat.2, .int .i64 b.toil.1, .int .i64 b.toil.2, .int .i64 b.burn.1, .int .i64 b.burn.2, .int .i64 b.rub.1, .int .i64 b.rub.2, .int .i64 b.milk.1, .int .i64 b.milk.2, .int .i64 b.heal, .int .i64 b.strong.1, .int .i64 b.strong.2], .agg #[.int .i64 c.water.1, .int .i64 c.water.2, .int .i64 c.fat.1, .int .i64 c.fat.2, .int .i64 c.sore.1, .int .i64 c.sore.2, .bool c.milks]] w fun e w' => e = .returned (.tuple #[.agg #[.int .i64 120000, .int .i64 200000], .int .i64 0]) ∧ Below w.heap.size w w' := by
  subst hb hc
  have h := Carries_any brE cmE w
  rw [eqs_fit.1, eqs_fit.2.2] at h
  exact h
theorem cost_x (b : Br) (m : Mr) (hb : b = brE) (hm : m = mrE) (w : World) : Calls Try.prog 24 #[.agg #[.int .i64 b.full, .int .i64 b.fed, .int .i64 b.rest.1, .int .i64 b.rest.2, .int .i64 b.heat.1, .int .i64 b.heat.2, .int .i64 b.toil.1, .int .i64 b.toil.2, .int .i64 b.burn.1, .int .i64 b.burn.2, .int .i64 b.rub.1, .int .i64 b.rub.2, .int .i64 b.milk.1, .int .i64 b.milk.2, .int .i64 b.heal, .int .i64 b.strong.1, .int .i64 b.strong.2], .bool false, .agg #[.int .i64 m.hours, .int .i64 m.load, .int .i64 m.heat.1, .int .i64 m.heat.2, .int .i64 m.grass.1, .int .i64 m.grass.2, .int .i64 m.drinks.1, .int .i64 m.drinks.2]] w fun e w' => e = .returned (.tuple #[.agg #[.int .i64 7000, .int .i64 9500], .agg #[.int .i64 800, .int .i64 1000], .int .i64 0]) ∧ Below w.heap.size w w' := by
  subst hb hm
  have h := Cost_any brE false mrE w
  rw [eqs_cost.1, eqs_cost.2.1, eqs_cost.2.2] at h
  exact h
theorem aft_x (b : Br) (c : Cm) (m : Mr) (hb : b = brE) (hc : c = cmE) (hm : m = mrE) (w : World) : Calls Try.prog 25 #[.agg #[.int .i64 b.full, .int .i64 b.fed, .int .i64 b.rest.1, .int .i64 b.rest.2, .int .i64 b.heat.1, .int .i64 b.heat.2, .int .i64 b.toil.1, .int .i64 b.toil.2, .int .i64 b.burn.1, .int .i64 b.burn.2, .int .i64 b.rub.1, .int .i64 b.rub.2, .int .i64 b.milk.1, .int .i64 b.milk.2, .int .i64 b.heal, .int .i64 b.strong.1, .int .i64 b.strong.2], .agg #[.int .i64 c.water.1, .int .i64 c.water.2, .int .i64 c.fat.1, .int .i64 c.fat.2, .int .i64 c.sore.1, .int .i64 c.sore.2, .bool c.milks], .agg #[.int .i64 m.hours, .int .i64 m.load, .int .i64 m.heat.1, .int .i64 m.heat.2, .int .i64 m.grass.1, .int .i64 m.grass.2, .int .i64 m.drinks.1, .int .i64 m.drinks.2]] w fun e w' => e = .returned (.tuple #[.agg #[.int .i64 50500, .int .i64 63000, .int .i64 19000, .int .i64 29200, .int .i64 100, .int .i64 300, .bool false], .int .u8 0, .int .i64 0]) ∧ Below w.heap.size w w' := by
  subst hb hc hm
  have h := After_any brE cmE mrE w
  rw [eqs_aft.1, eqs_aft.2, eq_aft] at h
  exact h
theorem last_x (b : Br) (c : Cm) (m : Mr) (hb : b = brE) (hc : c = cmE) (hm : m = mrE) (w : World) : Calls Try.prog 37 #[.agg #[.int .i64 b.full, .int .i64 b.fed, .int .i64 b.rest.1, .int .i64 b.rest.2, .int .i64 b.heat.1, .int .i64 b.heat.2, .int .i64 b.toil.1, .int .i64 b.toil.2, .int .i64 b.burn.1, .int .i64 b.burn.2, .int .i64 b.rub.1, .int .i64 b.rub.2, .int .i64 b.milk.1, .int .i64 b.milk.2, .int .i64 b.heal, .int .i64 b.strong.1, .int .i64 b.strong.2], .agg #[.int .i64 c.water.1, .int .i64 c.water.2, .int .i64 c.fat.1, .int .i64 c.fat.2, .int .i64 c.sore.1, .int .i64 c.sore.2, .bool c.milks], .agg #[.int .i64 m.hours, .int .i64 m.load, .int .i64 m.heat.1, .int .i64 m.heat.2, .int .i64 m.grass.1, .int .i64 m.grass.2, .int .i64 m.drinks.1, .int .i64 m.drinks.2]] w fun e w' => e = .returned (.tuple #[.agg #[.int .i64 6, .int .i64 10], .int .i64 0]) ∧ Below w.heap.size w w' := by
  subst hb hc hm
  have h := Lasts_any brE cmE mrE w
  rw [eqs_last.1, eqs_last.2] at h
  exact h
theorem breed_x (b : Br) (hb : b = brE) (w : World) : Calls Try.prog 19 #[] w fun e w' => e = .returned (.agg #[.int .i64 b.full, .int .i64 b.fed, .int .i64 b.rest.1, .int .i64 b.rest.2, .int .i64 b.heat.1, .int .i64 b.heat.2, .int .i64 b.toil.1, .int .i64 b.toil.2, .int .i64 b.burn.1, .int .i64 b.burn.2, .int .i64 b.rub.1, .int .i64 b.rub.2, .int .i64 b.milk.1, .int .i64 b.milk.2, .int .i64 b.heal, .int .i64 b.strong.1, .int .i64 b.strong.2]) ∧ Below w.heap.size w w' := by subst hb; exact breed_any w
theorem animal_x (c : Cm) (hc : c = cmE) (w : World) : Calls Try.prog 20 #[] w fun e w' => e = .returned (.agg #[.int .i64 c.water.1, .int .i64 c.water.2, .int .i64 c.fat.1, .int .i64 c.fat.2, .int .i64 c.sore.1, .int .i64 c.sore.2, .bool c.milks]) ∧ Below w.heap.size w w' := by subst hc; exact animal_any w
theorem day_x (m : Mr) (hm : m = mrE) (w : World) : Calls Try.prog 22 #[] w fun e w' => e = .returned (.agg #[.int .i64 m.hours, .int .i64 m.load, .int .i64 m.heat.1, .int .i64 m.heat.2, .int .i64 m.grass.1, .int .i64 m.grass.2, .int .i64 m.drinks.1, .int .i64 m.drinks.2]) ∧ Below w.heap.size w w' := by subst hm; exact day_any w
theorem mange_x (d : Int) (bs : ByteArray) (hx : chkG 3 [0] herdM (3, 5) d = 0) (hb : bsO 3 [0] herdM (3, 5) d = bs) (w : World) (g1 c1 g2 c2 : Nat) (h1 : IntsIn w (some ⟨g1, 0, none⟩) c1 [0]) (h2 : MeetsIn w (some ⟨g2, 0, none⟩) c2 herdM) :
    Calls Try.prog 15 #[.int .i64 3, .slice (some ⟨g1, 0, none⟩) 1 c1, .slice (some ⟨g2, 0, none⟩) 2 c2, .agg #[.int .i64 3, .int .i64 5], .int .i64 d] w fun e w' => (∃ v, e = .returned (.tuple #[v, .int .i64 0]) ∧ Told9 w' v bs) ∧ Below w.heap.size w w' :=
  Mange_x 3 d (3, 5) _ c1 1 [0] _ c2 2 herdM 0 bs w rfl rfl h1 h2 hx hb (by omega)
end Go.Proofs.Ytafdcbdbllpcnaa
/- Contracts of the outright properties' helpers: ready, at, pick. -/
namespace Go.Proofs.Ytafdcbdbllpcnaa
open Go.RowKit
open Go.Proofs

attribute [local go_sem ↓] exec36l exec112l exec36s exec112s exec31s run_min2 run_max2
attribute [local go_sem] load36 load112 store36 store112 store31 build112 rowOf_alloc rowOf_drew setRow_alloc one_int one_bool run_min4

theorem exec45l : ∀ ρ dst x ty pos after guard, execOp ρ { dst, op := .load 45 x, type := ty, pos, after, guard } = wideLoad 45 (ρ x) := execOp_wideLoad 45
theorem load45 (g : Nat) (w : World) : (wideLoad 45 (.pointer (some ⟨g, 0, none⟩))).run Try.prog w = match rowOf w g with
      | some cs => if cs.size = 8 then .ok (.value (.agg cs)) w else wideLoadElse Try.prog 45 g w
      | none => wideLoadElse Try.prog 45 g w := run_wideLoad (P := Try.prog) 8 Try.underlying45 rfl info45 g w
theorem cams_row {W : World} {g : Nat} {cs : List Cm} (h : rowOf W g = some (cs.flatMap camCells).toArray) : CamelsAt W g 0 cs := by
  obtain ⟨hc, -, -⟩ := cell_of_rowOf h
  intro k hk
  have key : ∀ i v, (camCells cs[k])[i]? = some v → W.cell? ⟨g, 0 + k * 7 + i, none⟩ = some v := by
    intro i v hv
    have hi : i < 7 := (List.getElem?_eq_some_iff.1 hv).1
    rw [hc, ← hv, ← flat_at camCells 7 (fun _ => rfl) cs k i hk hi, List.getElem?_toArray, Nat.zero_add]
  exact ⟨key 0 _ rfl, key 1 _ rfl, key 2 _ rfl, key 3 _ rfl, key 4 _ rfl, key 5 _ rfl, key 6 _ rfl⟩
theorem mars_row {W : World} {g : Nat} {ms : List Mr} (h : rowOf W g = some (ms.flatMap marCells).toArray) : MarchesAt W g 0 ms := by
  obtain ⟨hc, -, -⟩ := cell_of_rowOf h
  intro k hk
  have key : ∀ i v, (marCells ms[k])[i]? = some v → W.cell? ⟨g, 0 + k * 8 + i, none⟩ = some v := by
    intro i v hv
    have hi : i < 8 := (List.getElem?_eq_some_iff.1 hv).1
    rw [hc, ← hv, ← flat_at marCells 8 (fun _ => rfl) ms k i hk hi, List.getElem?_toArray, Nat.zero_add]
  exact ⟨key 0 _ rfl, key 1 _ rfl, key 2 _ rfl, key 3 _ rfl, key 4 _ rfl, key 5 _ rfl, key 6 _ rfl, key 7 _ rfl⟩
theorem days_row {W : World} {g : Nat} {ms : List Mr} (cap : Nat) (h : rowOf W g = some (ms.flatMap marCells).toArray) : DaysIn W (some ⟨g, 0, none⟩) cap ms := .inr ⟨g, 0, rfl, mars_row h, (cell_of_rowOf h).2.2⟩

/-- A breed, an animal and days are valid. -/
def rdyS (b : Br) (c : Cm) (ms : List Mr) : Bool := decide (chkC b c = 0) && decide (ms.length ≤ 60) && ms.all okM

set_option maxRecDepth 100000 in
set_option maxHeartbeats 1000000 in
theorem ready_all (b : Br) (c : Cm) (a : Option Addr) (cap n : Nat) (ms : List Mr) (y : Bool) (w : World) (hn : n = ms.length) (h : DaysIn w a cap ms) (h0 : chkC b c = 0) (h6 : n ≤ 60) (hy : ms.all okM = y) :
    Calls Try.prog 44 #[.agg #[.int .i64 b.full, .int .i64 b.fed, .int .i64 b.rest.1, .int .i64 b.rest.2, .int .i64 b.heat.1, .int .i64 b.heat.2, .int .i64 b.toil.1, .int .i64 b.toil.2, .int .i64 b.burn.1, .int .i64 b.burn.2, .int .i64 b.rub.1, .int .i64 b.rub.2, .int .i64 b.milk.1, .int .i64 b.milk.2, .int .i64 b.heal, .int .i64 b.strong.1, .int .i64 b.strong.2], .agg #[.int .i64 c.water.1, .int .i64 c.water.2, .int .i64 c.fat.1, .int .i64 c.fat.2, .int .i64 c.sore.1, .int .i64 c.sore.2, .bool c.milks], .slice a n cap] w fun e w' => e = .returned (.bool y) ∧ Below w.heap.size w w' := by
  have HX := Lib.hid hy
  have HC := Lib.hid h0
  have HS := Lib.hid h
  have HN := Lib.hid hn
  have hn60 : ¬ (60 : Int) < (n : Int) := by omega
  clear hy h0 h hn
  go_enter Try.func44, Try.ntmps44
  go_wp2_with fail
  refine (rchkC_x b c _ HC.out _).mono ?_
  rintro e W1 ⟨rfl, hB⟩
  have hW1 : Below w.heap.size w W1 := Below.trans (by go_grown) (hB.mono (by simp; try omega))
  have zW1 := hW1.size
  clear hB
  go_wp2_with fail
  go_loopw [20] (fun i wr => ∃ k : Nat, k ≤ n ∧ i = .int .i64 k ∧ Hid ((ms.take k).all okM = true) ∧ Below w.heap.size w wr) (fun i _ => n - (intOf i).toNat)
  case atStart => exact ⟨0, Nat.zero_le _, rfl, by simp [Hid], hW1⟩
  case round =>
    obtain ⟨k, hk, rfl, hall, hB0⟩ := hrel
    have hz := hB0.size
    by_cases hlt : k < n
    · have hkl : k < ms.length := by have := HN.out; omega
      have hlt' : (k : Int) < (n : Int) := by omega
      rcases HS.out with ⟨-, -, hnil⟩ | ⟨g, off, rfl, hms, hg⟩
      · rw [hnil] at hkl; simp at hkl
      · obtain ⟨c0, c1, c2, c3, c4, c5, c6, c7⟩ := march_below hB0 hg (hms k hkl)
        clear hms
        generalize hm : ms[k] = m at *
        have Hm := Lib.hid hm
        clear hm
        cases hok : okM m with
        | false =>
          have HK := Lib.hid hok
          clear hok
          go_wp2_with fail
          refine (rMarch_x m _ HK.out _).mono ?_
          rintro e W ⟨rfl, hB⟩
          have hw : Below w.heap.size w W := hB0.trans (Below.trans (by go_grown) (hB.mono (by first | exact hz | (simp; omega))))
          clear hB
          go_wp2
          go_returns
          exact ⟨ret_bool (by rw [← HX.out, all_noM ms k hkl (by rw [Hm.out]; exact HK.out)]), hw⟩
        | true =>
          have HK := Lib.hid hok
          clear hok
          go_wp2_with fail
          refine (rMarch_x m _ HK.out _).mono ?_
          rintro e W ⟨rfl, hB⟩
          have hw : Below w.heap.size w W := hB0.trans (Below.trans (by go_grown) (hB.mono (by first | exact hz | (simp; omega))))
          clear hB
          go_wp2
          exact ⟨⟨k + 1, by omega, by go_num, all_stepM ms k hkl hall.out (by rw [Hm.out]; exact HK.out), hw⟩, by simp [intOf]; omega⟩
    · obtain rfl : k = n := by omega
      go_wp2
      go_returns
      have h := hall.out
      rw [HN.out, List.take_length] at h
      exact ⟨ret_bool (by rw [← HX.out, h]), hB0⟩
theorem ready_many (b : Br) (c : Cm) (a : Option Addr) (cap n : Nat) (w : World) (h0 : chkC b c = 0) (h6 : 60 < n) :
    Calls Try.prog 44 #[.agg #[.int .i64 b.full, .int .i64 b.fed, .int .i64 b.rest.1, .int .i64 b.rest.2, .int .i64 b.heat.1, .int .i64 b.heat.2, .int .i64 b.toil.1, .int .i64 b.toil.2, .int .i64 b.burn.1, .int .i64 b.burn.2, .int .i64 b.rub.1, .int .i64 b.rub.2, .int .i64 b.milk.1, .int .i64 b.milk.2, .int .i64 b.heal, .int .i64 b.strong.1, .int .i64 b.strong.2], .agg #[.int .i64 c.water.1, .int .i64 c.water.2, .int .i64 c.fat.1, .int .i64 c.fat.2, .int .i64 c.sore.1, .int .i64 c.sore.2, .bool c.milks], .slice a n cap] w fun e w' => e = .returned (.bool false) ∧ Below w.heap.size w w' := by
  have HC := Lib.hid h0
  have hn60 : (60 : Int) < (n : Int) := by omega
  clear h0
  go_enter Try.func44, Try.ntmps44
  go_wp2_with fail
  refine (rchkC_x b c _ HC.out _).mono ?_
  rintro e W1 ⟨rfl, hB⟩
  have hW1 : Below w.heap.size w W1 := Below.trans (by go_grown) (hB.mono (by simp; try omega))
  have zW1 := hW1.size
  clear hB
  go_wp2
  go_returns
  exact ⟨rfl, hW1⟩
theorem ready_bad (b : Br) (c : Cm) (a : Option Addr) (cap n : Nat) (x : Int) (w : World) (hx : chkC b c = x) (h0 : x ≠ 0) :
    Calls Try.prog 44 #[.agg #[.int .i64 b.full, .int .i64 b.fed, .int .i64 b.rest.1, .int .i64 b.rest.2, .int .i64 b.heat.1, .int .i64 b.heat.2, .int .i64 b.toil.1, .int .i64 b.toil.2, .int .i64 b.burn.1, .int .i64 b.burn.2, .int .i64 b.rub.1, .int .i64 b.rub.2, .int .i64 b.milk.1, .int .i64 b.milk.2, .int .i64 b.heal, .int .i64 b.strong.1, .int .i64 b.strong.2], .agg #[.int .i64 c.water.1, .int .i64 c.water.2, .int .i64 c.fat.1, .int .i64 c.fat.2, .int .i64 c.sore.1, .int .i64 c.sore.2, .bool c.milks], .slice a n cap] w fun e w' => e = .returned (.bool false) ∧ Below w.heap.size w w' := by
  have HC := Lib.hid hx
  have hne : (x == 0) = false := by simpa using h0
  clear hx
  go_enter Try.func44, Try.ntmps44
  go_wp2_with fail
  refine (rchkC_x b c _ HC.out _).mono ?_
  rintro e W1 ⟨rfl, hB⟩
  have hW1 : Below w.heap.size w W1 := Below.trans (by go_grown) (hB.mono (by simp; try omega))
  have zW1 := hW1.size
  clear hB
  go_wp2
  go_returns
  exact ⟨rfl, hW1⟩
theorem ready_any (b : Br) (c : Cm) (a : Option Addr) (cap n : Nat) (ms : List Mr) (y : Bool) (w : World) (hn : n = ms.length) (h : DaysIn w a cap ms) (hy : rdyS b c ms = y) :
    Calls Try.prog 44 #[.agg #[.int .i64 b.full, .int .i64 b.fed, .int .i64 b.rest.1, .int .i64 b.rest.2, .int .i64 b.heat.1, .int .i64 b.heat.2, .int .i64 b.toil.1, .int .i64 b.toil.2, .int .i64 b.burn.1, .int .i64 b.burn.2, .int .i64 b.rub.1, .int .i64 b.rub.2, .int .i64 b.milk.1, .int .i64 b.milk.2, .int .i64 b.heal, .int .i64 b.strong.1, .int .i64 b.strong.2], .agg #[.int .i64 c.water.1, .int .i64 c.water.2, .int .i64 c.fat.1, .int .i64 c.fat.2, .int .i64 c.sore.1, .int .i64 c.sore.2, .bool c.milks], .slice a n cap] w fun e w' => e = .returned (.bool y) ∧ Below w.heap.size w w' := by
  subst hy
  by_cases h0 : chkC b c = 0
  · by_cases h6 : n ≤ 60
    · exact ready_all b c a cap n ms _ w hn h h0 h6 (by simp [rdyS, h0, show ms.length ≤ 60 by omega])
    · rw [show rdyS b c ms = false by simp [rdyS, show ¬ ms.length ≤ 60 by omega]]
      exact ready_many b c a cap n w h0 (by omega)
  · rw [show rdyS b c ms = false by simp [rdyS, h0]]
    exact ready_bad b c a cap n _ w rfl h0
end Go.Proofs.Ytafdcbdbllpcnaa
/- Contract of package camel's Thirst at a list that isn't nil, of a valid breed, and not too long. -/
namespace Go.Proofs.Ytafdcbdbllpcnaa
open Go.RowKit
open Go.Proofs

attribute [local go_sem ↓] exec36l exec112l exec36s exec112s exec31s exec39s run_min2 run_max2
attribute [local go_sem] load36 load112 store36 store112 store39 store31at List.setIfInBounds_toArray List.set_cons_succ List.set_cons_zero build39z rowOf_alloc rowOf_drew setRow_alloc one_int one_bool

/-- How much water animals need, from a first sum on, and the error. -/
def thGo (b : Br) : List Cm → Int × Int → (Int × Int) × Int
  | [], acc => (acc, 0)
  | c :: l, acc => if okC b c = true then thGo b l (acc.1 + (b.full - c.water.2), acc.2 + (b.full - c.water.1)) else ((0, 0), 11)
theorem thGo_drop {b : Br} {cs : List Cm} {k : Nat} (h : k < cs.length) (acc : Int × Int) : thGo b (cs.drop k) acc = if okC b cs[k] = true then thGo b (cs.drop (k + 1)) (acc.1 + (b.full - cs[k].water.2), acc.2 + (b.full - cs[k].water.1)) else ((0, 0), 11) := by
  rw [List.drop_eq_getElem_cons h, thGo]

set_option maxRecDepth 100000 in
set_option maxHeartbeats 2000000 in
theorem Thirst_some (b : Br) (g off cap : Nat) (cs : List Cm) (w : World) (h : CamelsAt w g off cs) (hg : g < w.heap.size) (hb : okB b = true) (hl : cs.length ≤ 30) :
    Calls Try.prog 18 #[.agg #[.int .i64 b.full, .int .i64 b.fed, .int .i64 b.rest.1, .int .i64 b.rest.2, .int .i64 b.heat.1, .int .i64 b.heat.2, .int .i64 b.toil.1, .int .i64 b.toil.2, .int .i64 b.burn.1, .int .i64 b.burn.2, .int .i64 b.rub.1, .int .i64 b.rub.2, .int .i64 b.milk.1, .int .i64 b.milk.2, .int .i64 b.heal, .int .i64 b.strong.1, .int .i64 b.strong.2], .slice (some ⟨g, off, none⟩) cs.length cap] w fun e w' => e = .returned (.tuple #[.agg #[.int .i64 (thGo b cs (0, 0)).1.1, .int .i64 (thGo b cs (0, 0)).1.2], .int .i64 (thGo b cs (0, 0)).2]) ∧ Below w.heap.size w w' := by
  obtain ⟨r, hr⟩ : ∃ r, thGo b cs (0, 0) = r := ⟨_, rfl⟩
  rw [hr]
  have HR := Lib.hid hr
  have HB := Lib.hid hb
  have HS := Lib.hid h
  obtain ⟨l1, l2⟩ := (okB_bd hb).full
  clear hr hb h
  go_enter Try.func18, Try.ntmps18
  go_wp2_with fail
  refine (CheckBreed_x b _ HB.out _).mono ?_
  rintro e W1 ⟨rfl, hB⟩
  have hW1 : Below w.heap.size w W1 := Below.trans (by go_grown) (hB.mono (by simp; try omega))
  have zW1 := hW1.size
  obtain ⟨raW1, caW1, gaW1, zaW1⟩ := keep_row hB (g := w.heap.size) (by repeat (first | with_reducible assumption | with_reducible apply row_here0 | with_reducible apply row_here1 | with_reducible apply row_here2 | with_reducible apply row_here3 | with_reducible apply rowSkip))
  obtain ⟨rdW1, cdW1, gdW1, zdW1⟩ := keep_row hB (g := w.heap.size + 1) (by repeat (first | with_reducible assumption | with_reducible apply row_here0 | with_reducible apply row_here1 | with_reducible apply row_here2 | with_reducible apply row_here3 | with_reducible apply rowSkip))
  clear hB
  go_wp2_with fail
  go_loopw [24] (fun i wr => ∃ (k : Nat) (acc : Int × Int), k ≤ cs.length ∧ i = .int .i64 k ∧ Hid (thGo b (cs.drop k) acc = r) ∧ 0 ≤ acc.1 ∧ acc.1 ≤ k * 1000000 ∧ 0 ≤ acc.2 ∧ acc.2 ≤ k * 1000000 ∧ Below w.heap.size w wr ∧ rowOf wr w.heap.size = some #[.int .i64 b.full, .int .i64 b.fed, .int .i64 b.rest.1, .int .i64 b.rest.2, .int .i64 b.heat.1, .int .i64 b.heat.2, .int .i64 b.toil.1, .int .i64 b.toil.2, .int .i64 b.burn.1, .int .i64 b.burn.2, .int .i64 b.rub.1, .int .i64 b.rub.2, .int .i64 b.milk.1, .int .i64 b.milk.2, .int .i64 b.heal, .int .i64 b.strong.1, .int .i64 b.strong.2] ∧ rowOf wr (w.heap.size + 1) = some #[.int .i64 0, .int .i64 0] ∧ rowOf wr W1.heap.size = some #[.int .i64 acc.1, .int .i64 acc.2]) (fun i _ => cs.length - (intOf i).toNat)
  case atStart => exact ⟨0, (0, 0), Nat.zero_le _, rfl, by have h := HR.out; simpa [Hid] using h, by simp, by simp, by simp, by simp, by go_grown, rowSkip raW1, rowSkip rdW1, row_here0 _ _ _⟩
  case round =>
    obtain ⟨k, acc, hk, rfl, hgo, a1, a2, a3, a4, hR, q1, q2, q3⟩ := hrel
    clear raW1 caW1 gaW1 rdW1 cdW1 gdW1
    obtain ⟨raR, caR, gaR, zaR⟩ := row_facts q1
    obtain ⟨rdR, cdR, gdR, zdR⟩ := row_facts q2
    obtain ⟨rtR, ctR, gtR, ztR⟩ := row_facts q3
    have zR := hR.size
    clear q1 q2 q3
    by_cases hlt : k < cs.length
    · obtain ⟨c0, c1, c2, c3, c4, c5, c6⟩ := camel_below hR hg (HS.out k hlt)
      have H0 := Lib.hid ((thGo_drop (b := b) hlt acc).symm.trans hgo.out)
      clear hgo
      generalize cs[k] = c at *
      have hlt' : (k : Int) < (cs.length : Int) := by omega
      cases ho : okC b c with
      | true =>
        have HC := Lib.hid (show chkC b c = 0 by simp [chkC, HB.out, ho])
        have H1 : Hid (thGo b (cs.drop (k + 1)) (acc.1 + (b.full - c.water.2), acc.2 + (b.full - c.water.1)) = r) := by
          have h := H0.out
          rw [if_pos ho] at h
          exact h
        obtain ⟨x1, x2, x3⟩ := (okC_bd ho).water
        clear ho H0
        go_wp2_with fail
        refine (chkC_x b c _ HC.out _).mono ?_
        rintro e W2 ⟨rfl, hB⟩
        have hW2 : Below w.heap.size w W2 := hR.trans (Below.trans (by have := hR.size; go_grown) (hB.mono (by have := hR.size; simp; try omega)))
        have zW2 := hW2.size
        obtain ⟨raW2, caW2, gaW2, zaW2⟩ := keep_row hB (g := w.heap.size) (by repeat (first | with_reducible assumption | with_reducible apply row_here0 | with_reducible apply row_here1 | with_reducible apply row_here2 | with_reducible apply row_here3 | with_reducible apply rowSkip))
        obtain ⟨rdW2, cdW2, gdW2, zdW2⟩ := keep_row hB (g := w.heap.size + 1) (by repeat (first | with_reducible assumption | with_reducible apply row_here0 | with_reducible apply row_here1 | with_reducible apply row_here2 | with_reducible apply row_here3 | with_reducible apply rowSkip))
        obtain ⟨rtW2, ctW2, gtW2, ztW2⟩ := keep_row hB (g := W1.heap.size) (by repeat (first | with_reducible assumption | with_reducible apply row_here0 | with_reducible apply row_here1 | with_reducible apply row_here2 | with_reducible apply row_here3 | with_reducible apply rowSkip))
        obtain ⟨ruW2, cuW2, guW2, zuW2⟩ := keep_row hB (g := wr.heap.size) (by repeat (first | with_reducible assumption | with_reducible apply row_here0 | with_reducible apply row_here1 | with_reducible apply row_here2 | with_reducible apply row_here3 | with_reducible apply rowSkip))
        clear hB
        have ea := fun v v2 => (rowOf_setCell_other (W2.setCell ⟨W1.heap.size, 0, none⟩ v) ⟨W1.heap.size, 1, none⟩ v2 w.heap.size (by simp; omega)).trans ((rowOf_setCell_other W2 ⟨W1.heap.size, 0, none⟩ v w.heap.size (by simp; omega)).trans raW2)
        have ed := fun v v2 => (rowOf_setCell_other (W2.setCell ⟨W1.heap.size, 0, none⟩ v) ⟨W1.heap.size, 1, none⟩ v2 (w.heap.size + 1) (by simp; omega)).trans ((rowOf_setCell_other W2 ⟨W1.heap.size, 0, none⟩ v (w.heap.size + 1) (by simp; omega)).trans rdW2)
        have et := fun v v2 => rowOf_setCell_same (off := 1) (rowOf_setCell_same (off := 0) rtW2 v) v2
        go_wp2
        exact ⟨⟨k + 1, _, by omega, by go_num, H1, by simp only []; omega, by simp only []; omega, by simp only []; omega, by simp only []; omega, setCell_below (setCell_below hW2 (by omega) _) (by omega) _, ea _ _, ed _ _, et _ _⟩, by simp [intOf]; omega⟩
      | false =>
        have HC := Lib.hid (show chkC b c = 11 by simp [chkC, HB.out, ho])
        have H1 : Hid (r = ((0, 0), 11)) := by
          have h := H0.out
          rw [if_neg (by rw [ho]; simp)] at h
          exact h.symm
        clear ho H0
        go_wp2_with fail
        refine (chkC_x b c _ HC.out _).mono ?_
        rintro e W2 ⟨rfl, hB⟩
        have hW2 : Below w.heap.size w W2 := hR.trans (Below.trans (by have := hR.size; go_grown) (hB.mono (by have := hR.size; simp; try omega)))
        have zW2 := hW2.size
        obtain ⟨rdW2, cdW2, gdW2, zdW2⟩ := keep_row hB (g := w.heap.size + 1) (by repeat (first | with_reducible assumption | with_reducible apply row_here0 | with_reducible apply row_here1 | with_reducible apply row_here2 | with_reducible apply row_here3 | with_reducible apply rowSkip))
        clear hB
        go_wp2
        exact bodyPost_ret (results_row2 Try.results18 rfl (stored_setRow rdW2 _).row rfl (v := .int .i64 11) rfl) rfl ⟨by rw [H1.out], Below_setRow hW2 (by omega) _⟩
    · obtain rfl : k = cs.length := by omega
      have H1 : Hid (r = (acc, 0)) := by
        have h := hgo.out
        rw [List.drop_length, thGo] at h
        exact h.symm
      clear hgo
      have hq := fun vs g => rowOf_setRow rdR vs g
      go_wp2
      exact bodyPost_ret (results_row2 Try.results18 rfl (cs := #[.int .i64 acc.1, .int .i64 acc.2]) (stored_setRow rdR _).row rfl (v := .int .i64 0) rfl) rfl ⟨by rw [H1.out], Below_setRow hR (by omega) _⟩
end Go.Proofs.Ytafdcbdbllpcnaa
/- Contract of package camel's Thirst: how much water animals need, or the error, for every breed and list. -/
namespace Go.Proofs.Ytafdcbdbllpcnaa
open Go.RowKit
open Go.Proofs

attribute [local go_sem ↓] exec36l exec112l exec36s exec112s exec31s run_min2 run_max2
attribute [local go_sem] load36 load112 store36 store112 store31 build112 rowOf_alloc rowOf_drew setRow_alloc one_int one_bool run_min4

/-- A list of animals that was handed over: nil, or so many that lie one behind the other. -/
def HerdIn (w : World) (a : Option Addr) (cap : Nat) (cs : List Cm) : Prop :=
  (a = none ∧ cap = 0 ∧ cs = []) ∨ ∃ g off, a = some ⟨g, off, none⟩ ∧ CamelsAt w g off cs ∧ g < w.heap.size
def thR (b : Br) (cs : List Cm) : (Int × Int) × Int := if okB b = true then (if 30 < cs.length then ((0, 0), 4) else thGo b cs (0, 0)) else ((0, 0), 10)

set_option maxRecDepth 100000 in
set_option maxHeartbeats 1000000 in
theorem Thirst_any (b : Br) (a : Option Addr) (cap : Nat) (cs : List Cm) (w : World) (h : HerdIn w a cap cs) (hl : cs.length ≤ 100000) :
    Calls Try.prog 18 #[.agg #[.int .i64 b.full, .int .i64 b.fed, .int .i64 b.rest.1, .int .i64 b.rest.2, .int .i64 b.heat.1, .int .i64 b.heat.2, .int .i64 b.toil.1, .int .i64 b.toil.2, .int .i64 b.burn.1, .int .i64 b.burn.2, .int .i64 b.rub.1, .int .i64 b.rub.2, .int .i64 b.milk.1, .int .i64 b.milk.2, .int .i64 b.heal, .int .i64 b.strong.1, .int .i64 b.strong.2], .slice a cs.length cap] w fun e w' => e = .returned (.tuple #[.agg #[.int .i64 (thR b cs).1.1, .int .i64 (thR b cs).1.2], .int .i64 (thR b cs).2]) ∧ Below w.heap.size w w' := by
  cases hb : okB b with
  | false =>
    have hv : thR b cs = ((0, 0), 10) := by simp [thR, hb]
    rw [hv]
    have HB := Lib.hid hb
    clear hv hb h
    go_enter Try.func18, Try.ntmps18
    go_wp2_with fail
    refine (CheckBreed_x b _ HB.out _).mono ?_
    rintro e W1 ⟨rfl, hB⟩
    have hW1 : Below w.heap.size w W1 := Below.trans (by go_grown) (hB.mono (by simp; try omega))
    have zW1 := hW1.size
    obtain ⟨rdW1, cdW1, gdW1, zdW1⟩ := keep_row hB (g := w.heap.size + 1) (by repeat (first | with_reducible assumption | with_reducible apply row_here0 | with_reducible apply row_here1 | with_reducible apply row_here2 | with_reducible apply row_here3 | with_reducible apply rowSkip))
    clear hB
    go_wp2
    exact bodyPost_ret (results_row2 Try.results18 rfl (stored_setRow rdW1 _).row rfl (v := .int .i64 10) rfl) rfl ⟨rfl, Below_setRow hW1 (by omega) _⟩
  | true =>
    by_cases h6 : 30 < cs.length
    · have hv : thR b cs = ((0, 0), 4) := by simp [thR, hb, h6]
      rw [hv]
      have HB := Lib.hid hb
      clear hv hb h
      go_enter Try.func18, Try.ntmps18
      go_wp2_with fail
      refine (CheckBreed_x b _ HB.out _).mono ?_
      rintro e W1 ⟨rfl, hB⟩
      have hW1 : Below w.heap.size w W1 := Below.trans (by go_grown) (hB.mono (by simp; try omega))
      have zW1 := hW1.size
      obtain ⟨rdW1, cdW1, gdW1, zdW1⟩ := keep_row hB (g := w.heap.size + 1) (by repeat (first | with_reducible assumption | with_reducible apply row_here0 | with_reducible apply row_here1 | with_reducible apply row_here2 | with_reducible apply row_here3 | with_reducible apply rowSkip))
      clear hB
      go_wp2
      exact bodyPost_ret (results_row2 Try.results18 rfl (stored_setRow rdW1 _).row rfl (v := .int .i64 4) rfl) rfl ⟨rfl, Below_setRow hW1 (by omega) _⟩
    · have hv : thR b cs = thGo b cs (0, 0) := by rw [thR, if_pos hb, if_neg h6]
      rw [hv]
      rcases h with ⟨rfl, rfl, rfl⟩ | ⟨g, off, rfl, h3, h4⟩
      · have HB := Lib.hid hb
        clear hb hv
        go_enter Try.func18, Try.ntmps18
        go_wp2_with fail
        refine (CheckBreed_x b _ HB.out _).mono ?_
        rintro e W1 ⟨rfl, hB⟩
        have hW1 : Below w.heap.size w W1 := Below.trans (by go_grown) (hB.mono (by simp; try omega))
        have zW1 := hW1.size
        obtain ⟨rdW1, cdW1, gdW1, zdW1⟩ := keep_row hB (g := w.heap.size + 1) (by repeat (first | with_reducible assumption | with_reducible apply row_here0 | with_reducible apply row_here1 | with_reducible apply row_here2 | with_reducible apply row_here3 | with_reducible apply rowSkip))
        clear hB
        have hq := fun vs g => rowOf_setRow rdW1 vs g
        go_wp2_with fail
        go_rounds 1
        exact bodyPost_ret (results_row2 Try.results18 rfl (cs := #[.int .i64 0, .int .i64 0]) (stored_setRow (rowSkip rdW1) _).row rfl (v := .int .i64 0) rfl) rfl ⟨rfl, Below_setRow (Below.alloc hW1 zW1 _) (by omega) _⟩
      · exact Thirst_some b g off cap cs w h3 h4 hb (by omega)
end Go.Proofs.Ytafdcbdbllpcnaa
