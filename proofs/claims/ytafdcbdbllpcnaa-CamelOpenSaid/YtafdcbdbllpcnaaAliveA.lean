/- The examples' breed, animal, day and meetings; what is told of them. -/
import Derived.Test.YtafdcbdbllpcnaaMangU
import Derived.Test.YtafdcbdbllpcnaaLeafI
import Derived.Test.YtafdcbdbllpcnaaLeafL
import Derived.Test.YtafdcbdbllpcnaaDaysU
import Derived.Test.YtafdcbdbllpcnaaDayT
import Derived.Test.YtafdcbdbllpcnaaLawPick
namespace Go.Proofs.Ytafdcbdbllpcnaa
open Go.RowKit
open Go.Proofs

attribute [local go_sem ↓] exec36l exec112l exec36s exec112s exec31s run_min2 run_max2
attribute [local go_sem] load36 load112 store36 store112 store31 build112 rowOf_alloc rowOf_drew setRow_alloc one_int one_bool run_min4
attribute [local go_sem ↓] exec45s exec39s
attribute [local go_sem] store45 store39

def brE : Br := ⟨100000, 50000, (2000, 2500), (100, 100), (200, 250), (40, 50), (100, 200), (1000, 1500), 50, (150000, 200000)⟩
def cmE : Cm := ⟨(60000, 70000), (20000, 30000), (0, 100), false⟩
def mrE : Mr := ⟨10, 100000, (30, 40), (0, 0), (0, 0)⟩
theorem build36 (a b h : Int) (x0 x1 x2 x3 x4 x5 x6 x7 x8 x9 x10 x11 x12 x13 : Int) (w : World) :
    (Instr.build 36 #[(0, .int .i64 a), (1, .int .i64 b), (2, .agg #[.int .i64 x0, .int .i64 x1]), (3, .agg #[.int .i64 x2, .int .i64 x3]), (4, .agg #[.int .i64 x4, .int .i64 x5]), (5, .agg #[.int .i64 x6, .int .i64 x7]), (6, .agg #[.int .i64 x8, .int .i64 x9]), (7, .agg #[.int .i64 x10, .int .i64 x11]), (8, .int .i64 h), (9, .agg #[.int .i64 x12, .int .i64 x13])]).run Try.prog w = .ok (.agg #[.int .i64 a, .int .i64 b, .int .i64 x0, .int .i64 x1, .int .i64 x2, .int .i64 x3, .int .i64 x4, .int .i64 x5, .int .i64 x6, .int .i64 x7, .int .i64 x8, .int .i64 x9, .int .i64 x10, .int .i64 x11, .int .i64 h, .int .i64 x12, .int .i64 x13]) w := by kernel_rfl
theorem build39_3 (a b c d e f : Int) (w : World) : (Instr.build 39 #[(0, .agg #[.int .i64 a, .int .i64 b]), (1, .agg #[.int .i64 c, .int .i64 d]), (2, .agg #[.int .i64 e, .int .i64 f])]).run Try.prog w = .ok (.agg #[.int .i64 a, .int .i64 b, .int .i64 c, .int .i64 d, .int .i64 e, .int .i64 f, .bool false]) w := by kernel_rfl
theorem build45_3 (a b c d : Int) (w : World) : (Instr.build 45 #[(0, .int .i64 a), (1, .int .i64 b), (2, .agg #[.int .i64 c, .int .i64 d])]).run Try.prog w = .ok (.agg #[.int .i64 a, .int .i64 b, .int .i64 c, .int .i64 d, .int .i64 0, .int .i64 0, .int .i64 0, .int .i64 0]) w := by kernel_rfl
attribute [local go_sem] build36 build39_3 build45_3
theorem res36 {fn : Func} {p : Tmp} (h : fn.results = #[.cell p 36]) {tmps : Array Value} {w : World} {g : Nat} (hp : tmps.getD p undef = .pointer (some ⟨g, 0, none⟩)) {cs : Array Value} (hg : rowOf w g = some cs) (hs : cs.size = 17) : (results fn tmps).run Try.prog w = .ok (.agg cs) w :=
  results_row h 17 Try.underlying36 rfl (by kernel_rfl) hp hg hs
theorem res45 {fn : Func} {p : Tmp} (h : fn.results = #[.cell p 45]) {tmps : Array Value} {w : World} {g : Nat} (hp : tmps.getD p undef = .pointer (some ⟨g, 0, none⟩)) {cs : Array Value} (hg : rowOf w g = some cs) (hs : cs.size = 8) : (results fn tmps).run Try.prog w = .ok (.agg cs) w :=
  results_row h 8 Try.underlying45 rfl (by kernel_rfl) hp hg hs

set_option maxHeartbeats 2000000 in
theorem breed_any (w : World) : Calls Try.prog 19 #[] w fun e w' => e = .returned (.agg #[.int .i64 brE.full, .int .i64 brE.fed, .int .i64 brE.rest.1, .int .i64 brE.rest.2, .int .i64 brE.heat.1, .int .i64 brE.heat.2, .int .i64 brE.toil.1, .int .i64 brE.toil.2, .int .i64 brE.burn.1, .int .i64 brE.burn.2, .int .i64 brE.rub.1, .int .i64 brE.rub.2, .int .i64 brE.milk.1, .int .i64 brE.milk.2, .int .i64 brE.heal, .int .i64 brE.strong.1, .int .i64 brE.strong.2]) ∧ Below w.heap.size w w' := by
  go_enter Try.func19, Try.ntmps19
  go_wp2_with fail
  refine (span_any 2000 2500 _).mono ?_
  rintro e W1 ⟨rfl, hB⟩
  have hW1 : Below w.heap.size w W1 := Below.trans (by go_grown) (hB.mono (by simp; try omega))
  have zW1 := hW1.size
  obtain ⟨rrW1, crW1, grW1, zrW1⟩ := keep_row hB (g := w.heap.size) (by repeat (first | with_reducible assumption | with_reducible apply row_here0 | with_reducible apply row_here1 | with_reducible apply row_here2 | with_reducible apply row_here3 | with_reducible apply rowSkip))
  clear hB
  go_wp2_with fail
  refine (span_any 100 100 _).mono ?_
  rintro e W2 ⟨rfl, hB⟩
  have hW2 : Below w.heap.size w W2 := hW1.trans (Below.trans (by have := hW1.size; go_grown) (hB.mono (by have := hW1.size; simp; try omega)))
  have zW2 := hW2.size
  obtain ⟨rrW2, crW2, grW2, zrW2⟩ := keep_row hB (g := w.heap.size) (by repeat (first | with_reducible assumption | with_reducible apply row_here0 | with_reducible apply row_here1 | with_reducible apply row_here2 | with_reducible apply row_here3 | with_reducible apply rowSkip))
  clear hB
  clear rrW1 crW1 grW1
  go_wp2_with fail
  refine (span_any 200 250 _).mono ?_
  rintro e W3 ⟨rfl, hB⟩
  have hW3 : Below w.heap.size w W3 := hW2.trans (Below.trans (by have := hW2.size; go_grown) (hB.mono (by have := hW2.size; simp; try omega)))
  have zW3 := hW3.size
  obtain ⟨rrW3, crW3, grW3, zrW3⟩ := keep_row hB (g := w.heap.size) (by repeat (first | with_reducible assumption | with_reducible apply row_here0 | with_reducible apply row_here1 | with_reducible apply row_here2 | with_reducible apply row_here3 | with_reducible apply rowSkip))
  clear hB
  clear rrW2 crW2 grW2
  go_wp2_with fail
  refine (span_any 40 50 _).mono ?_
  rintro e W4 ⟨rfl, hB⟩
  have hW4 : Below w.heap.size w W4 := hW3.trans (Below.trans (by have := hW3.size; go_grown) (hB.mono (by have := hW3.size; simp; try omega)))
  have zW4 := hW4.size
  obtain ⟨rrW4, crW4, grW4, zrW4⟩ := keep_row hB (g := w.heap.size) (by repeat (first | with_reducible assumption | with_reducible apply row_here0 | with_reducible apply row_here1 | with_reducible apply row_here2 | with_reducible apply row_here3 | with_reducible apply rowSkip))
  clear hB
  clear rrW3 crW3 grW3
  go_wp2_with fail
  refine (span_any 100 200 _).mono ?_
  rintro e W5 ⟨rfl, hB⟩
  have hW5 : Below w.heap.size w W5 := hW4.trans (Below.trans (by have := hW4.size; go_grown) (hB.mono (by have := hW4.size; simp; try omega)))
  have zW5 := hW5.size
  obtain ⟨rrW5, crW5, grW5, zrW5⟩ := keep_row hB (g := w.heap.size) (by repeat (first | with_reducible assumption | with_reducible apply row_here0 | with_reducible apply row_here1 | with_reducible apply row_here2 | with_reducible apply row_here3 | with_reducible apply rowSkip))
  clear hB
  clear rrW4 crW4 grW4
  go_wp2_with fail
  refine (span_any 1000 1500 _).mono ?_
  rintro e W6 ⟨rfl, hB⟩
  have hW6 : Below w.heap.size w W6 := hW5.trans (Below.trans (by have := hW5.size; go_grown) (hB.mono (by have := hW5.size; simp; try omega)))
  have zW6 := hW6.size
  obtain ⟨rrW6, crW6, grW6, zrW6⟩ := keep_row hB (g := w.heap.size) (by repeat (first | with_reducible assumption | with_reducible apply row_here0 | with_reducible apply row_here1 | with_reducible apply row_here2 | with_reducible apply row_here3 | with_reducible apply rowSkip))
  clear hB
  clear rrW5 crW5 grW5
  go_wp2_with fail
  refine (span_any 150000 200000 _).mono ?_
  rintro e W7 ⟨rfl, hB⟩
  have hW7 : Below w.heap.size w W7 := hW6.trans (Below.trans (by have := hW6.size; go_grown) (hB.mono (by have := hW6.size; simp; try omega)))
  have zW7 := hW7.size
  obtain ⟨rrW7, crW7, grW7, zrW7⟩ := keep_row hB (g := w.heap.size) (by repeat (first | with_reducible assumption | with_reducible apply row_here0 | with_reducible apply row_here1 | with_reducible apply row_here2 | with_reducible apply row_here3 | with_reducible apply rowSkip))
  clear hB
  clear rrW6 crW6 grW6
  go_wp2
  exact bodyPost_ret (res36 Try.results19 rfl (stored_setRow rrW7 _).row rfl) rfl ⟨rfl, Below_setRow hW7 (Nat.le_refl _) _⟩
set_option maxHeartbeats 2000000 in
theorem animal_any (w : World) : Calls Try.prog 20 #[] w fun e w' => e = .returned (.agg #[.int .i64 cmE.water.1, .int .i64 cmE.water.2, .int .i64 cmE.fat.1, .int .i64 cmE.fat.2, .int .i64 cmE.sore.1, .int .i64 cmE.sore.2, .bool cmE.milks]) ∧ Below w.heap.size w w' := by
  go_enter Try.func20, Try.ntmps20
  go_wp2_with fail
  refine (span_any 60000 70000 _).mono ?_
  rintro e W1 ⟨rfl, hB⟩
  have hW1 : Below w.heap.size w W1 := Below.trans (by go_grown) (hB.mono (by simp; try omega))
  have zW1 := hW1.size
  obtain ⟨rrW1, crW1, grW1, zrW1⟩ := keep_row hB (g := w.heap.size) (by repeat (first | with_reducible assumption | with_reducible apply row_here0 | with_reducible apply row_here1 | with_reducible apply row_here2 | with_reducible apply row_here3 | with_reducible apply rowSkip))
  clear hB
  go_wp2_with fail
  refine (span_any 20000 30000 _).mono ?_
  rintro e W2 ⟨rfl, hB⟩
  have hW2 : Below w.heap.size w W2 := hW1.trans (Below.trans (by have := hW1.size; go_grown) (hB.mono (by have := hW1.size; simp; try omega)))
  have zW2 := hW2.size
  obtain ⟨rrW2, crW2, grW2, zrW2⟩ := keep_row hB (g := w.heap.size) (by repeat (first | with_reducible assumption | with_reducible apply row_here0 | with_reducible apply row_here1 | with_reducible apply row_here2 | with_reducible apply row_here3 | with_reducible apply rowSkip))
  clear hB
  clear rrW1 crW1 grW1
  go_wp2_with fail
  refine (span_any 0 100 _).mono ?_
  rintro e W3 ⟨rfl, hB⟩
  have hW3 : Below w.heap.size w W3 := hW2.trans (Below.trans (by have := hW2.size; go_grown) (hB.mono (by have := hW2.size; simp; try omega)))
  have zW3 := hW3.size
  obtain ⟨rrW3, crW3, grW3, zrW3⟩ := keep_row hB (g := w.heap.size) (by repeat (first | with_reducible assumption | with_reducible apply row_here0 | with_reducible apply row_here1 | with_reducible apply row_here2 | with_reducible apply row_here3 | with_reducible apply rowSkip))
  clear hB
  clear rrW2 crW2 grW2
  go_wp2
  exact bodyPost_ret (res39 Try.results20 rfl (stored_setRow rrW3 _).row rfl) rfl ⟨rfl, Below_setRow hW3 (Nat.le_refl _) _⟩
set_option maxHeartbeats 2000000 in
theorem day_any (w : World) : Calls Try.prog 22 #[] w fun e w' => e = .returned (.agg #[.int .i64 mrE.hours, .int .i64 mrE.load, .int .i64 mrE.heat.1, .int .i64 mrE.heat.2, .int .i64 mrE.grass.1, .int .i64 mrE.grass.2, .int .i64 mrE.drinks.1, .int .i64 mrE.drinks.2]) ∧ Below w.heap.size w w' := by
  go_enter Try.func22, Try.ntmps22
  go_wp2_with fail
  refine (span_any 30 40 _).mono ?_
  rintro e W1 ⟨rfl, hB⟩
  have hW1 : Below w.heap.size w W1 := Below.trans (by go_grown) (hB.mono (by simp; try omega))
  have zW1 := hW1.size
  obtain ⟨rrW1, crW1, grW1, zrW1⟩ := keep_row hB (g := w.heap.size) (by repeat (first | with_reducible assumption | with_reducible apply row_here0 | with_reducible apply row_here1 | with_reducible apply row_here2 | with_reducible apply row_here3 | with_reducible apply rowSkip))
  clear hB
  go_wp2
  exact bodyPost_ret (res45 Try.results22 rfl (stored_setRow rrW1 _).row rfl) rfl ⟨rfl, Below_setRow hW1 (Nat.le_refl _) _⟩
theorem meets_row {W : World} {g : Nat} {ms : List Mt} (h : rowOf W g = some (ms.flatMap mtCells).toArray) (cap : Nat) : MeetsIn W (some ⟨g, 0, none⟩) cap ms := by
  obtain ⟨hc, hf, hz⟩ := cell_of_rowOf h
  refine .inr ⟨g, 0, rfl, fun k hk => ?_, hz⟩
  have key : ∀ i v, (mtCells ms[k])[i]? = some v → W.cell? ⟨g, 0 + k * 4 + i, none⟩ = some v := by
    intro i v hv
    have hi : i < 4 := (List.getElem?_eq_some_iff.1 hv).1
    rw [hc, ← hv, ← flat_at mtCells 4 mt_len ms k i hk hi, List.getElem?_toArray, Nat.zero_add]
  exact ⟨key 0 _ rfl, key 1 _ rfl, key 2 _ rfl, key 3 _ rfl⟩
theorem herd_any (w : World) : Calls Try.prog 16 #[] w fun e w' => (∃ g, e = .returned (.slice (some ⟨g, 0, none⟩) 2 2) ∧ MeetsIn w' (some ⟨g, 0, none⟩) 2 herdM) ∧ Below w.heap.size w w' := by
  go_enter Try.func16, Try.ntmps16
  go_wp2
  go_returns
  exact ⟨⟨_, rfl, meets_row (row_here0 _ _ _) 2⟩, by go_grown⟩

theorem eqs_fit : chkC brE cmE = 0 ∧ fitR brE cmE = (800, 1000) ∧ carR brE cmE = (120000, 200000) := by decide +kernel
theorem eqs_cost : chkM brE mrE = 0 ∧ coW brE false mrE = (7000, 9500) ∧ coF brE mrE = (800, 1000) := by decide +kernel
theorem eq_aft : aftC brE cmE mrE = ⟨(50500, 63000), (19000, 29200), (100, 300), false⟩ := by kernel_rfl
theorem eqs_aft : chkA brE cmE mrE = 0 ∧ aftF brE cmE mrE = 0 := by decide +kernel
theorem eqs_last : chkT brE cmE [mrE] = 0 ∧ lasR brE cmE mrE = (6, 10) := by decide +kernel

theorem fit_x (b : Br) (c : Cm) (hb : b = brE) (hc : c = cmE) (w : World) : Calls Try.prog 23 #[.agg #[.int .i64 b.full, .int .i64 b.fed, .int .i64 b.rest.1, .int .i64 b.rest.2, .int .i64 b.heat.1, .int .i64 b.heat.2, .int .i64 b.toil.1, .int .i64 b.toil.2, .int .i64 b.burn.1, .int .i64 b.burn.2, .int .i64 b.rub.1, .int .i64 b.rub.2, .int .i64 b.milk.1, .int .i64 b.milk.2, .int .i64 b.heal, .int .i64 b.strong.1, .int .i64 b.strong.2], .agg #[.int .i64 c.water.1, .int .i64 c.water.2, .int .i64 c.fat.1, .int .i64 c.fat.2, .int .i64 c.sore.1, .int .i64 c.sore.2, .bool c.milks]] w fun e w' => e = .returned (.tuple #[.agg #[.int .i64 800, .int .i64 1000], .int .i64 0]) ∧ Below w.heap.size w w' := by
  subst hb hc
  have h := Fitness_any brE cmE w
  rw [eqs_fit.1, eqs_fit.2.1] at h
  exact h
theorem car_x (b : Br) (c : Cm) (hb : b = brE) (hc : c = cmE) (w : World) : Calls Try.prog 28 #[.agg #[.int .i64 b.full, .int .i64 b.fed, .int .i64 b.rest.1, .int .i64 b.rest.2, .int .i64 b.heat.1, .int .i64 b.heat.2, .int .i64 b.toil.1, .int .i64 b.toil.2, .int .i64 b.burn.1, .int .i64 b.burn.2, .int .i64 b.rub.1, .int .i64 b.rub.2, .int .i64 b.milk.1, .int .i64 b.milk.2, .int .i64 b.heal, .int .i64 b.strong.1, .int .i64 b.strong.2], .agg #[.int .i64 c.water.1, .int .i64 c.water.2, .int .i64 c.fat.1, .int .i64 c.fat.2, .int .i64 c.sore.1, .int .i64 c.sore.2, .bool c.milks]] w fun e w' => e = .returned (.tuple #[.agg #[.int .i64 120000, .int .i64 200000], .int .i64 0]) ∧ Below w.heap.size w w' := by
  subst hb hc
  have h := Carries_any brE cmE w
  rw [eqs_fit.1, eqs_fit.2.2] at h
  exact h
theorem cost_x (b : Br) (m : Mr) (hb : b = brE) (hm : m = mrE) (w : World) : Calls Try.prog 24 #[.agg #[.int .i64 b.full, .int .i64 b.fed, .int .i64 b.rest.1, .int .i64 b.rest.2, .int .i64 b.heat.1, .int .i64 b.heat.2, .int .i64 b.toil.1, .int .i64 b.toil.2, .int .i64 b.burn.1, .int .i64 b.burn.2, .int .i64 b.rub.1, .int .i64 b.rub.2, .int .i64 b.milk.1, .int .i64 b.milk.2, .int .i64 b.heal, .int .i64 b.strong.1, .int .i64 b.strong.2], .bool false, .agg #[.int .i64 m.hours, .int .i64 m.load, .int .i64 m.heat.1, .int .i64 m.heat.2, .int .i64 m.grass.1, .int .i64 m.grass.2, .int .i64 m.drinks.1, .int .i64 m.drinks.2]] w fun e w' => e = .returned (.tuple #[.agg #[.int .i64 7000, .int .i64 9500], .agg #[.int .i64 800, .int .i64 1000], .int .i64 0]) ∧ Below w.heap.size w w' := by
  subst hb hm
  have h := Cost_any brE false mrE w
  rw [eqs_cost.1, eqs_cost.2.1, eqs_cost.2.2] at h
  exact h
theorem aft_x (b : Br) (c : Cm) (m : Mr) (hb : b = brE) (hc : c = cmE) (hm : m = mrE) (w : World) : Calls Try.prog 25 #[.agg #[.int .i64 b.full, .int .i64 b.fed, .int .i64 b.rest.1, .int .i64 b.rest.2, .int .i64 b.heat.1, .int .i64 b.heat.2, .int .i64 b.toil.1, .int .i64 b.toil.2, .int .i64 b.burn.1, .int .i64 b.burn.2, .int .i64 b.rub.1, .int .i64 b.rub.2, .int .i64 b.milk.1, .int .i64 b.milk.2, .int .i64 b.heal, .int .i64 b.strong.1, .int .i64 b.strong.2], .agg #[.int .i64 c.water.1, .int .i64 c.water.2, .int .i64 c.fat.1, .int .i64 c.fat.2, .int .i64 c.sore.1, .int .i64 c.sore.2, .bool c.milks], .agg #[.int .i64 m.hours, .int .i64 m.load, .int .i64 m.heat.1, .int .i64 m.heat.2, .int .i64 m.grass.1, .int .i64 m.grass.2, .int .i64 m.drinks.1, .int .i64 m.drinks.2]] w fun e w' => e = .returned (.tuple #[.agg #[.int .i64 50500, .int .i64 63000, .int .i64 19000, .int .i64 29200, .int .i64 100, .int .i64 300, .bool false], .int .u8 0, .int .i64 0]) ∧ Below w.heap.size w w' := by
  subst hb hc hm
  have h := After_any brE cmE mrE w
  rw [eqs_aft.1, eqs_aft.2, eq_aft] at h
  exact h
theorem last_x (b : Br) (c : Cm) (m : Mr) (hb : b = brE) (hc : c = cmE) (hm : m = mrE) (w : World) : Calls Try.prog 37 #[.agg #[.int .i64 b.full, .int .i64 b.fed, .int .i64 b.rest.1, .int .i64 b.rest.2, .int .i64 b.heat.1, .int .i64 b.heat.2, .int .i64 b.toil.1, .int .i64 b.toil.2, .int .i64 b.burn.1, .int .i64 b.burn.2, .int .i64 b.rub.1, .int .i64 b.rub.2, .int .i64 b.milk.1, .int .i64 b.milk.2, .int .i64 b.heal, .int .i64 b.strong.1, .int .i64 b.strong.2], .agg #[.int .i64 c.water.1, .int .i64 c.water.2, .int .i64 c.fat.1, .int .i64 c.fat.2, .int .i64 c.sore.1, .int .i64 c.sore.2, .bool c.milks], .agg #[.int .i64 m.hours, .int .i64 m.load, .int .i64 m.heat.1, .int .i64 m.heat.2, .int .i64 m.grass.1, .int .i64 m.grass.2, .int .i64 m.drinks.1, .int .i64 m.drinks.2]] w fun e w' => e = .returned (.tuple #[.agg #[.int .i64 6, .int .i64 10], .int .i64 0]) ∧ Below w.heap.size w w' := by
  subst hb hc hm
  have h := Lasts_any brE cmE mrE w
  rw [eqs_last.1, eqs_last.2] at h
  exact h
theorem breed_x (b : Br) (hb : b = brE) (w : World) : Calls Try.prog 19 #[] w fun e w' => e = .returned (.agg #[.int .i64 b.full, .int .i64 b.fed, .int .i64 b.rest.1, .int .i64 b.rest.2, .int .i64 b.heat.1, .int .i64 b.heat.2, .int .i64 b.toil.1, .int .i64 b.toil.2, .int .i64 b.burn.1, .int .i64 b.burn.2, .int .i64 b.rub.1, .int .i64 b.rub.2, .int .i64 b.milk.1, .int .i64 b.milk.2, .int .i64 b.heal, .int .i64 b.strong.1, .int .i64 b.strong.2]) ∧ Below w.heap.size w w' := by subst hb; exact breed_any w
theorem animal_x (c : Cm) (hc : c = cmE) (w : World) : Calls Try.prog 20 #[] w fun e w' => e = .returned (.agg #[.int .i64 c.water.1, .int .i64 c.water.2, .int .i64 c.fat.1, .int .i64 c.fat.2, .int .i64 c.sore.1, .int .i64 c.sore.2, .bool c.milks]) ∧ Below w.heap.size w w' := by subst hc; exact animal_any w
theorem day_x (m : Mr) (hm : m = mrE) (w : World) : Calls Try.prog 22 #[] w fun e w' => e = .returned (.agg #[.int .i64 m.hours, .int .i64 m.load, .int .i64 m.heat.1, .int .i64 m.heat.2, .int .i64 m.grass.1, .int .i64 m.grass.2, .int .i64 m.drinks.1, .int .i64 m.drinks.2]) ∧ Below w.heap.size w w' := by subst hm; exact day_any w
theorem mange_x (d : Int) (bs : ByteArray) (hx : chkG 3 [0] herdM (3, 5) d = 0) (hb : bsO 3 [0] herdM (3, 5) d = bs) (w : World) (g1 c1 g2 c2 : Nat) (h1 : IntsIn w (some ⟨g1, 0, none⟩) c1 [0]) (h2 : MeetsIn w (some ⟨g2, 0, none⟩) c2 herdM) :
    Calls Try.prog 15 #[.int .i64 3, .slice (some ⟨g1, 0, none⟩) 1 c1, .slice (some ⟨g2, 0, none⟩) 2 c2, .agg #[.int .i64 3, .int .i64 5], .int .i64 d] w fun e w' => (∃ v, e = .returned (.tuple #[v, .int .i64 0]) ∧ Told9 w' v bs) ∧ Below w.heap.size w w' :=
  Mange_x 3 d (3, 5) _ c1 1 [0] _ c2 2 herdM 0 bs w rfl rfl h1 h2 hx hb (by omega)
end Go.Proofs.Ytafdcbdbllpcnaa
