/- Contracts of package camel's CheckCamel, Fitness and Carries: what they return, for every breed and animal. -/
import Derived.Test.YtafdcbdbllpcnaaLeafE
import Derived.Test.YtafdcbdbllpcnaaRefA
set_option linter.unusedVariables false
set_option linter.unusedSimpArgs false
namespace Go.Proofs.Ytafdcbdbllpcnaa
open Go.RowKit
open Go.Proofs

attribute [local go_sem ↓] exec36l exec112l exec36s exec112s exec31s run_min2 run_max2
attribute [local go_sem] load36 load112 store36 store112 store31 build112 rowOf_alloc rowOf_drew setRow_alloc one_int one_bool run_min4

theorem within1s (most : Int) (s : Int × Int) (w : World) (b cap : Nat) (h : rowOf w b = some #[.int .i64 s.1, .int .i64 s.2]) (hb : b < w.heap.size) :
    Calls Try.prog 74 #[.int .i64 most, .slice (some ⟨b, 0, none⟩) 1 cap] w fun e w' => e = .returned (.bool (okSpan most s)) ∧ Below w.heap.size w w' := by
  have := within1 most s w b cap h hb
  simpa using this

/-- Results: a span in a block, and a number. -/
theorem results_row2 {fn : Func} {p q : Tmp} (h : fn.results = #[.cell p 31, .tmp q]) {tmps : Array Value} {w : World} {g : Nat} (hp : tmps.getD p undef = .pointer (some ⟨g, 0, none⟩)) {cs : Array Value} (hg : rowOf w g = some cs) (hs : cs.size = 2) {v : Value} (hq : tmps.getD q undef = v) :
    (results fn tmps).run Try.prog w = .ok (.tuple #[.agg cs, v]) w := by
  obtain ⟨t', hg'⟩ := rowOf_some hg
  have hp' : tmps[p]?.getD undef = .pointer (some ⟨g, 0, none⟩) := by simpa using hp
  have hq' : tmps[q]?.getD undef = v := by simpa using hq
  have hl := run_loadVar_row (P := Try.prog) w g t' 31 cs (0, 0) _ hg' Try.underlying31 rfl (by rw [hs]; kernel_rfl)
  simp [results, h, hp', hq', asAddr, hl]

/-- The error of an animal. -/
def chkC (b : Br) (c : Cm) : Int := if okB b = true then (if okC b c = true then 0 else 11) else 10

set_option maxHeartbeats 4000000 in
theorem CheckCamel_any (b : Br) (c : Cm) (w : World) :
    Calls Try.prog 33 #[.agg #[.int .i64 b.full, .int .i64 b.fed, .int .i64 b.rest.1, .int .i64 b.rest.2, .int .i64 b.heat.1, .int .i64 b.heat.2, .int .i64 b.toil.1, .int .i64 b.toil.2, .int .i64 b.burn.1, .int .i64 b.burn.2, .int .i64 b.rub.1, .int .i64 b.rub.2, .int .i64 b.milk.1, .int .i64 b.milk.2, .int .i64 b.heal, .int .i64 b.strong.1, .int .i64 b.strong.2], .agg #[.int .i64 c.water.1, .int .i64 c.water.2, .int .i64 c.fat.1, .int .i64 c.fat.2, .int .i64 c.sore.1, .int .i64 c.sore.2, .bool c.milks]] w fun e w' => e = .returned (.int .i64 (chkC b c)) ∧ Below w.heap.size w w' := by
  cases hb : okB b with
  | false =>
    have hv : chkC b c = 10 := by simp [chkC, hb]
    rw [hv]
    have hcall := fun w => CheckBreed_any b w
    simp only [hb, Bool.false_eq_true, if_false] at hcall
    have HC := Lib.hid hcall
    clear hcall hv hb
    go_enter Try.func33, Try.ntmps33
    go_wp2_with fail
    refine (HC.out _).mono ?_
    rintro e W ⟨rfl, hB⟩
    have hw : Below w.heap.size w W := Below.trans (by go_grown) (hB.mono (by go_size))
    clear hB
    go_wp2
    go_returns
    exact ⟨rfl, hw⟩
  | true =>
    have hv : chkC b c = if okC b c = true then 0 else 11 := by simp [chkC, hb]
    rw [hv]
    have hcall := fun w => CheckBreed_any b w
    simp only [hb, if_true] at hcall
    have HC := Lib.hid hcall
    clear hcall hv hb
    go_enter Try.func33, Try.ntmps33
    go_wp2_with fail
    refine (HC.out _).mono ?_
    rintro e W1 ⟨rfl, hB⟩
    have hW1 : Below w.heap.size w W1 := Below.trans (by go_grown) (hB.mono (by simp; try omega))
    have zW1 := hW1.size
    obtain ⟨raW1, caW1, gaW1, zaW1⟩ := keep_row hB (g := w.heap.size) (by repeat (first | with_reducible assumption | with_reducible apply row_here0 | with_reducible apply row_here1 | with_reducible apply row_here2 | with_reducible apply row_here3 | with_reducible apply rowSkip))
    obtain ⟨rbW1, cbW1, gbW1, zbW1⟩ := keep_row hB (g := w.heap.size + 1) (by repeat (first | with_reducible assumption | with_reducible apply row_here0 | with_reducible apply row_here1 | with_reducible apply row_here2 | with_reducible apply row_here3 | with_reducible apply rowSkip))
    clear hB
    go_wp2_with (go_at_call 74; refine (within1s _ _ _ _ _ (row_here0 _ _ _) (by simp)).mono ?_; rintro e W ⟨rfl, hB⟩; obtain ⟨r1, c1, -, s1⟩ := keep_row hB (g := w.heap.size) (by repeat (first | with_reducible assumption | with_reducible apply row_here0 | with_reducible apply row_here1 | with_reducible apply row_here2 | with_reducible apply row_here3 | with_reducible apply rowSkip)); obtain ⟨r2, c2, -, s2⟩ := keep_row hB (g := w.heap.size + 1) (by repeat (first | with_reducible assumption | with_reducible apply row_here0 | with_reducible apply row_here1 | with_reducible apply row_here2 | with_reducible apply row_here3 | with_reducible apply rowSkip)); have hw : Below w.heap.size w W := Below.trans (by go_grown) (hB.mono (by go_size)); clear hB)
    all_goals go_returns
    all_goals refine ⟨ret_int ?_, by first | assumption | go_grown⟩
    all_goals try simp only [Bool.not_eq_true', Bool.not_eq_false', Bool.not_eq_true] at *
    all_goals clear HC hw
    all_goals simp_all [okC]

/-- With an error all other results are zero. -/
def fitR (b : Br) (c : Cm) : Int × Int := if chkC b c = 0 then fitS b c else (0, 0)
def carR (b : Br) (c : Cm) : Int × Int := if chkC b c = 0 then carS b c else (0, 0)
theorem chkC_ok {b : Br} {c : Cm} (h : chkC b c = 0) : BdB b ∧ BdC b c := by
  unfold chkC at h
  cases hb : okB b with
  | false => simp [hb] at h
  | true =>
    cases hc : okC b c with
    | false => simp [hb, hc] at h
    | true => exact ⟨okB_bd hb, okC_bd hc⟩

set_option maxHeartbeats 4000000 in
theorem Fitness_any (b : Br) (c : Cm) (w : World) :
    Calls Try.prog 23 #[.agg #[.int .i64 b.full, .int .i64 b.fed, .int .i64 b.rest.1, .int .i64 b.rest.2, .int .i64 b.heat.1, .int .i64 b.heat.2, .int .i64 b.toil.1, .int .i64 b.toil.2, .int .i64 b.burn.1, .int .i64 b.burn.2, .int .i64 b.rub.1, .int .i64 b.rub.2, .int .i64 b.milk.1, .int .i64 b.milk.2, .int .i64 b.heal, .int .i64 b.strong.1, .int .i64 b.strong.2], .agg #[.int .i64 c.water.1, .int .i64 c.water.2, .int .i64 c.fat.1, .int .i64 c.fat.2, .int .i64 c.sore.1, .int .i64 c.sore.2, .bool c.milks]] w fun e w' => e = .returned (.tuple #[.agg #[.int .i64 (fitR b c).1, .int .i64 (fitR b c).2], .int .i64 (chkC b c)]) ∧ Below w.heap.size w w' := by
  by_cases h0 : chkC b c = 0
  · obtain ⟨hb, hc⟩ := chkC_ok h0
    have hv : fitR b c = fitS b c := by rw [fitR, if_pos h0]
    rw [hv, h0]
    have hcall := fun w => CheckCamel_any b c w
    simp only [h0] at hcall
    have HC := Lib.hid hcall
    clear hcall hv h0
    go_enter Try.func23, Try.ntmps23
    go_wp2_with fail
    refine (HC.out _).mono ?_
    rintro e W1 ⟨rfl, hB⟩
    have hW1 : Below w.heap.size w W1 := Below.trans (by go_grown) (hB.mono (by simp; try omega))
    have zW1 := hW1.size
    obtain ⟨raW1, caW1, gaW1, zaW1⟩ := keep_row hB (g := w.heap.size) (by repeat (first | with_reducible assumption | with_reducible apply row_here0 | with_reducible apply row_here1 | with_reducible apply row_here2 | with_reducible apply row_here3 | with_reducible apply rowSkip))
    obtain ⟨rbW1, cbW1, gbW1, zbW1⟩ := keep_row hB (g := w.heap.size + 1) (by repeat (first | with_reducible assumption | with_reducible apply row_here0 | with_reducible apply row_here1 | with_reducible apply row_here2 | with_reducible apply row_here3 | with_reducible apply rowSkip))
    obtain ⟨rcW1, ccW1, gcW1, zcW1⟩ := keep_row hB (g := w.heap.size + 1 + 1) (by repeat (first | with_reducible assumption | with_reducible apply row_here0 | with_reducible apply row_here1 | with_reducible apply row_here2 | with_reducible apply row_here3 | with_reducible apply rowSkip))
    clear hB
    go_wp2_with fail
    refine (atWork_any b c _).mono ?_
    rintro e W2 ⟨rfl, hB⟩
    have hW2 : Below w.heap.size w W2 := hW1.trans (Below.trans (by have := hW1.size; go_grown) (hB.mono (by have := hW1.size; simp; try omega)))
    have zW2 := hW2.size
    obtain ⟨rcW2, ccW2, gcW2, zcW2⟩ := keep_row hB (g := w.heap.size + 1 + 1) (by repeat (first | with_reducible assumption | with_reducible apply row_here0 | with_reducible apply row_here1 | with_reducible apply row_here2 | with_reducible apply row_here3 | with_reducible apply rowSkip))
    clear hB
    go_wp2_with fail
    refine (fitness_any b c _ hb hc).mono ?_
    rintro e W3 ⟨rfl, hB⟩
    have hW3 : Below w.heap.size w W3 := hW2.trans (Below.trans (by have := hW2.size; go_grown) (hB.mono (by have := hW2.size; simp; try omega)))
    have zW3 := hW3.size
    obtain ⟨rcW3, ccW3, gcW3, zcW3⟩ := keep_row hB (g := w.heap.size + 1 + 1) (by repeat (first | with_reducible assumption | with_reducible apply row_here0 | with_reducible apply row_here1 | with_reducible apply row_here2 | with_reducible apply row_here3 | with_reducible apply rowSkip))
    clear hB
    go_wp2
    exact bodyPost_ret (results_row2 Try.results23 rfl (stored_setRow rcW3 _).row rfl (v := .int .i64 0) rfl) rfl ⟨rfl, Below_setRow hW3 (by omega) _⟩
  · have hv : fitR b c = (0, 0) := by rw [fitR, if_neg h0]
    rw [hv]
    obtain ⟨x, hx⟩ : ∃ x, chkC b c = x := ⟨_, rfl⟩
    rw [hx] at h0
    have hcall := fun w => CheckCamel_any b c w
    simp only [hx] at hcall ⊢
    have HC := Lib.hid hcall
    have hne : (x == 0) = false := by simpa using h0
    clear hcall hv h0 hx
    go_enter Try.func23, Try.ntmps23
    go_wp2_with fail
    refine (HC.out _).mono ?_
    rintro e W1 ⟨rfl, hB⟩
    have hW1 : Below w.heap.size w W1 := Below.trans (by go_grown) (hB.mono (by simp; try omega))
    have zW1 := hW1.size
    obtain ⟨raW1, caW1, gaW1, zaW1⟩ := keep_row hB (g := w.heap.size) (by repeat (first | with_reducible assumption | with_reducible apply row_here0 | with_reducible apply row_here1 | with_reducible apply row_here2 | with_reducible apply row_here3 | with_reducible apply rowSkip))
    obtain ⟨rbW1, cbW1, gbW1, zbW1⟩ := keep_row hB (g := w.heap.size + 1) (by repeat (first | with_reducible assumption | with_reducible apply row_here0 | with_reducible apply row_here1 | with_reducible apply row_here2 | with_reducible apply row_here3 | with_reducible apply rowSkip))
    obtain ⟨rcW1, ccW1, gcW1, zcW1⟩ := keep_row hB (g := w.heap.size + 1 + 1) (by repeat (first | with_reducible assumption | with_reducible apply row_here0 | with_reducible apply row_here1 | with_reducible apply row_here2 | with_reducible apply row_here3 | with_reducible apply rowSkip))
    clear hB
    go_wp2
    exact bodyPost_ret (results_row2 Try.results23 rfl (stored_setRow rcW1 _).row rfl (v := .int .i64 x) rfl) rfl ⟨rfl, Below_setRow hW1 (by omega) _⟩

set_option maxHeartbeats 4000000 in
theorem Carries_any (b : Br) (c : Cm) (w : World) :
    Calls Try.prog 28 #[.agg #[.int .i64 b.full, .int .i64 b.fed, .int .i64 b.rest.1, .int .i64 b.rest.2, .int .i64 b.heat.1, .int .i64 b.heat.2, .int .i64 b.toil.1, .int .i64 b.toil.2, .int .i64 b.burn.1, .int .i64 b.burn.2, .int .i64 b.rub.1, .int .i64 b.rub.2, .int .i64 b.milk.1, .int .i64 b.milk.2, .int .i64 b.heal, .int .i64 b.strong.1, .int .i64 b.strong.2], .agg #[.int .i64 c.water.1, .int .i64 c.water.2, .int .i64 c.fat.1, .int .i64 c.fat.2, .int .i64 c.sore.1, .int .i64 c.sore.2, .bool c.milks]] w fun e w' => e = .returned (.tuple #[.agg #[.int .i64 (carR b c).1, .int .i64 (carR b c).2], .int .i64 (chkC b c)]) ∧ Below w.heap.size w w' := by
  by_cases h0 : chkC b c = 0
  · obtain ⟨hb, hc⟩ := chkC_ok h0
    have hv : carR b c = carS b c := by rw [carR, if_pos h0]
    rw [hv, h0]
    have hcall := fun w => CheckCamel_any b c w
    simp only [h0] at hcall
    have HC := Lib.hid hcall
    clear hcall hv h0
    go_enter Try.func28, Try.ntmps28
    go_wp2_with fail
    refine (HC.out _).mono ?_
    rintro e W1 ⟨rfl, hB⟩
    have hW1 : Below w.heap.size w W1 := Below.trans (by go_grown) (hB.mono (by simp; try omega))
    have zW1 := hW1.size
    obtain ⟨raW1, caW1, gaW1, zaW1⟩ := keep_row hB (g := w.heap.size) (by repeat (first | with_reducible assumption | with_reducible apply row_here0 | with_reducible apply row_here1 | with_reducible apply row_here2 | with_reducible apply row_here3 | with_reducible apply rowSkip))
    obtain ⟨rbW1, cbW1, gbW1, zbW1⟩ := keep_row hB (g := w.heap.size + 1) (by repeat (first | with_reducible assumption | with_reducible apply row_here0 | with_reducible apply row_here1 | with_reducible apply row_here2 | with_reducible apply row_here3 | with_reducible apply rowSkip))
    obtain ⟨rcW1, ccW1, gcW1, zcW1⟩ := keep_row hB (g := w.heap.size + 1 + 1) (by repeat (first | with_reducible assumption | with_reducible apply row_here0 | with_reducible apply row_here1 | with_reducible apply row_here2 | with_reducible apply row_here3 | with_reducible apply rowSkip))
    clear hB
    go_wp2_with fail
    refine (atWork_any b c _).mono ?_
    rintro e W2 ⟨rfl, hB⟩
    have hW2 : Below w.heap.size w W2 := hW1.trans (Below.trans (by have := hW1.size; go_grown) (hB.mono (by have := hW1.size; simp; try omega)))
    have zW2 := hW2.size
    obtain ⟨rcW2, ccW2, gcW2, zcW2⟩ := keep_row hB (g := w.heap.size + 1 + 1) (by repeat (first | with_reducible assumption | with_reducible apply row_here0 | with_reducible apply row_here1 | with_reducible apply row_here2 | with_reducible apply row_here3 | with_reducible apply rowSkip))
    clear hB
    go_wp2_with fail
    refine (carries_any b c _ hb hc).mono ?_
    rintro e W3 ⟨rfl, hB⟩
    have hW3 : Below w.heap.size w W3 := hW2.trans (Below.trans (by have := hW2.size; go_grown) (hB.mono (by have := hW2.size; simp; try omega)))
    have zW3 := hW3.size
    obtain ⟨rcW3, ccW3, gcW3, zcW3⟩ := keep_row hB (g := w.heap.size + 1 + 1) (by repeat (first | with_reducible assumption | with_reducible apply row_here0 | with_reducible apply row_here1 | with_reducible apply row_here2 | with_reducible apply row_here3 | with_reducible apply rowSkip))
    clear hB
    go_wp2
    exact bodyPost_ret (results_row2 Try.results28 rfl (stored_setRow rcW3 _).row rfl (v := .int .i64 0) rfl) rfl ⟨rfl, Below_setRow hW3 (by omega) _⟩
  · have hv : carR b c = (0, 0) := by rw [carR, if_neg h0]
    rw [hv]
    obtain ⟨x, hx⟩ : ∃ x, chkC b c = x := ⟨_, rfl⟩
    rw [hx] at h0
    have hcall := fun w => CheckCamel_any b c w
    simp only [hx] at hcall ⊢
    have HC := Lib.hid hcall
    have hne : (x == 0) = false := by simpa using h0
    clear hcall hv h0 hx
    go_enter Try.func28, Try.ntmps28
    go_wp2_with fail
    refine (HC.out _).mono ?_
    rintro e W1 ⟨rfl, hB⟩
    have hW1 : Below w.heap.size w W1 := Below.trans (by go_grown) (hB.mono (by simp; try omega))
    have zW1 := hW1.size
    obtain ⟨raW1, caW1, gaW1, zaW1⟩ := keep_row hB (g := w.heap.size) (by repeat (first | with_reducible assumption | with_reducible apply row_here0 | with_reducible apply row_here1 | with_reducible apply row_here2 | with_reducible apply row_here3 | with_reducible apply rowSkip))
    obtain ⟨rbW1, cbW1, gbW1, zbW1⟩ := keep_row hB (g := w.heap.size + 1) (by repeat (first | with_reducible assumption | with_reducible apply row_here0 | with_reducible apply row_here1 | with_reducible apply row_here2 | with_reducible apply row_here3 | with_reducible apply rowSkip))
    obtain ⟨rcW1, ccW1, gcW1, zcW1⟩ := keep_row hB (g := w.heap.size + 1 + 1) (by repeat (first | with_reducible assumption | with_reducible apply row_here0 | with_reducible apply row_here1 | with_reducible apply row_here2 | with_reducible apply row_here3 | with_reducible apply rowSkip))
    clear hB
    go_wp2
    exact bodyPost_ret (results_row2 Try.results28 rfl (stored_setRow rcW1 _).row rfl (v := .int .i64 x) rfl) rfl ⟨rfl, Below_setRow hW1 (by omega) _⟩

end Go.Proofs.Ytafdcbdbllpcnaa
/- Contract of package camel's checkMarches: it tells whether all days of a list are valid. -/
namespace Go.Proofs.Ytafdcbdbllpcnaa
open Go.RowKit
open Go.Proofs

attribute [local go_sem ↓] exec36l exec112l exec36s exec112s exec31s run_min2 run_max2
attribute [local go_sem] load36 load112 store36 store112 store31 build112 rowOf_alloc rowOf_drew setRow_alloc one_int one_bool run_min4

/-- Days lie one behind the other in a block. -/
def MarchAt (w : World) (b o : Nat) (m : Mr) : Prop :=
  w.cell? ⟨b, o, none⟩ = some (.int .i64 m.hours) ∧ w.cell? ⟨b, o + 1, none⟩ = some (.int .i64 m.load) ∧ w.cell? ⟨b, o + 2, none⟩ = some (.int .i64 m.heat.1) ∧ w.cell? ⟨b, o + 3, none⟩ = some (.int .i64 m.heat.2) ∧
  w.cell? ⟨b, o + 4, none⟩ = some (.int .i64 m.grass.1) ∧ w.cell? ⟨b, o + 5, none⟩ = some (.int .i64 m.grass.2) ∧ w.cell? ⟨b, o + 6, none⟩ = some (.int .i64 m.drinks.1) ∧ w.cell? ⟨b, o + 7, none⟩ = some (.int .i64 m.drinks.2)
def MarchesAt (w : World) (b off : Nat) (ms : List Mr) : Prop := ∀ k (h : k < ms.length), MarchAt w b (off + k * 8) ms[k]

theorem within2s (most : Int) (s t : Int × Int) (w : World) (b cap : Nat) (h : rowOf w b = some #[.int .i64 s.1, .int .i64 s.2, .int .i64 t.1, .int .i64 t.2]) (hb : b < w.heap.size) :
    Calls Try.prog 74 #[.int .i64 most, .slice (some ⟨b, 0, none⟩) 2 cap] w fun e w' => e = .returned (.bool (okSpan most s && okSpan most t)) ∧ Below w.heap.size w w' := by
  have := within_any most b 0 cap [s, t] w (spans_of_row _ h fun k hk => by
    match k, hk with
    | 0, _ => exact ⟨rfl, rfl⟩
    | 1, _ => exact ⟨rfl, rfl⟩) hb (by simp)
  simpa using this

theorem within1x (most : Int) (s : Int × Int) (x : Bool) (hx : okSpan most s = x) (w : World) (b cap : Nat) (h : rowOf w b = some #[.int .i64 s.1, .int .i64 s.2]) (hb : b < w.heap.size) :
    Calls Try.prog 74 #[.int .i64 most, .slice (some ⟨b, 0, none⟩) 1 cap] w fun e w' => e = .returned (.bool x) ∧ Below w.heap.size w w' := by
  subst hx; exact within1s most s w b cap h hb
theorem within2x (most : Int) (s t : Int × Int) (x : Bool) (hx : (okSpan most s && okSpan most t) = x) (w : World) (b cap : Nat) (h : rowOf w b = some #[.int .i64 s.1, .int .i64 s.2, .int .i64 t.1, .int .i64 t.2]) (hb : b < w.heap.size) :
    Calls Try.prog 74 #[.int .i64 most, .slice (some ⟨b, 0, none⟩) 2 cap] w fun e w' => e = .returned (.bool x) ∧ Below w.heap.size w w' := by
  subst hx; exact within2s most s t w b cap h hb
theorem all_stepM (ms : List Mr) (k : Nat) (h : k < ms.length) (ha : (ms.take k).all okM = true) (hm : okM ms[k] = true) : (ms.take (k + 1)).all okM = true := by
  rw [List.take_succ_eq_append_getElem h, List.all_append, ha]
  simp [hm]
theorem all_noM (ms : List Mr) (k : Nat) (h : k < ms.length) (hm : okM ms[k] = false) : ms.all okM = false := by
  rw [List.all_eq_false]
  exact ⟨ms[k], List.getElem_mem h, by simp [hm]⟩
theorem okM_no {m : Mr} (h : ¬ (0 ≤ m.hours ∧ m.hours ≤ 24 ∧ 0 ≤ m.load ∧ m.load ≤ 1000000)) : okM m = false := by
  rw [← Bool.not_eq_true]
  simp only [okM, inB, Bool.and_eq_true, decide_eq_true_eq]
  omega

set_option maxHeartbeats 4000000 in
theorem checkMarches_any (b off cap : Nat) (ms : List Mr) (w : World) (hs : MarchesAt w b off ms) (hb : b < w.heap.size) (hl : ms.length ≤ 100000) :
    Calls Try.prog 63 #[.slice (some ⟨b, off, none⟩) ms.length cap] w fun e w' => e = .returned (.int .i64 (if ms.all okM = true then 0 else 12)) ∧ Below w.heap.size w w' := by
  have HS := Lib.hid hs
  obtain ⟨x, hx⟩ : ∃ x : Int, (if ms.all okM = true then 0 else 12) = x := ⟨_, rfl⟩
  rw [hx]
  have HX := Lib.hid hx
  clear hs hx
  go_enter Try.func63, Try.ntmps63
  go_wp2
  go_loopw [7] (fun i wr => ∃ k : Nat, k ≤ ms.length ∧ i = .int .i64 k ∧ Hid ((ms.take k).all okM = true) ∧ Below w.heap.size w wr) (fun i _ => ms.length - (intOf i).toNat)
  case atStart => exact ⟨0, Nat.zero_le _, rfl, by simp [Hid], Below.refl _ _⟩
  case round =>
    obtain ⟨k, hk, rfl, hall, hB0⟩ := hrel
    have hg := hB0.size
    by_cases hlt : k < ms.length
    · obtain ⟨c0, c1, c2, c3, c4, c5, c6, c7⟩ := HS.out k hlt
      generalize hm : ms[k] = m at *
      have Hm := Lib.hid hm
      clear hm
      rw [← hB0.cell (p := ⟨b, off + k * 8, none⟩) hb] at c0
      rw [← hB0.cell (p := ⟨b, off + k * 8 + 1, none⟩) hb] at c1
      rw [← hB0.cell (p := ⟨b, off + k * 8 + 2, none⟩) hb] at c2
      rw [← hB0.cell (p := ⟨b, off + k * 8 + 3, none⟩) hb] at c3
      rw [← hB0.cell (p := ⟨b, off + k * 8 + 4, none⟩) hb] at c4
      rw [← hB0.cell (p := ⟨b, off + k * 8 + 5, none⟩) hb] at c5
      rw [← hB0.cell (p := ⟨b, off + k * 8 + 6, none⟩) hb] at c6
      rw [← hB0.cell (p := ⟨b, off + k * 8 + 7, none⟩) hb] at c7
      by_cases h1 : 0 ≤ m.hours ∧ m.hours ≤ 24 ∧ 0 ≤ m.load ∧ m.load ≤ 1000000
      · obtain ⟨d1, d2, d3, d4⟩ := h1
        have hB1 : Below w.heap.size w wr := hB0
        cases h5 : okSpan 60 m.heat with
        | false =>
          have H5 := Lib.hid h5
          have hno : okM m = false := by simp [okM, h5]
          have HN := Lib.hid hno
          clear h5 hno
          go_wp2_with fail
          refine (within1x 60 m.heat false H5.out _ _ _ (by repeat (first | with_reducible assumption | with_reducible apply row_here0 | with_reducible apply row_here1 | with_reducible apply row_here2 | with_reducible apply row_here3 | with_reducible apply rowSkip)) (by simp)).mono ?_
          rintro e W ⟨rfl, hB⟩
          have hw : Below w.heap.size w W := hB0.trans (Below.trans (by go_grown) (hB.mono (by simp; omega)))
          clear hB
          go_wp2
          go_returns
          exact ⟨ret_int (by rw [← HX.out, if_neg (by rw [all_noM ms k hlt (by rw [Hm.out]; exact HN.out)]; simp)]), hw⟩
        | true =>
          have H5 := Lib.hid h5
          go_wp2_with fail
          refine (within1x 60 m.heat true H5.out _ _ _ (by repeat (first | with_reducible assumption | with_reducible apply row_here0 | with_reducible apply row_here1 | with_reducible apply row_here2 | with_reducible apply row_here3 | with_reducible apply rowSkip)) (by simp)).mono ?_
          rintro e W ⟨rfl, hB⟩
          have hw : Below w.heap.size w W := hB0.trans (Below.trans (by go_grown) (hB.mono (by simp; omega)))
          obtain ⟨r1, q1, -, s1⟩ := keep_row hB (g := wr.heap.size) (by repeat (first | with_reducible assumption | with_reducible apply row_here0 | with_reducible apply row_here1 | with_reducible apply row_here2 | with_reducible apply row_here3 | with_reducible apply rowSkip))
          clear hB
          have hz := hw.size
          cases h6 : (okSpan 1000000 m.grass && okSpan 1000000 m.drinks) with
          | false =>
            have H6 := Lib.hid h6
            have hno : okM m = false := by
              rw [Bool.and_eq_false_iff] at h6
              rcases h6 with h6 | h6 <;> simp [okM, h6]
            have HN := Lib.hid hno
            clear h5 h6 hno
            go_wp2_with fail
            refine (within2x 1000000 m.grass m.drinks false H6.out _ _ _ (by repeat (first | with_reducible assumption | with_reducible apply row_here0 | with_reducible apply row_here1 | with_reducible apply row_here2 | with_reducible apply row_here3 | with_reducible apply rowSkip)) (by simp)).mono ?_
            rintro e W2 ⟨rfl, hB⟩
            have hw2 : Below w.heap.size w W2 := hw.trans (Below.trans (by go_grown) (hB.mono (by simp; omega)))
            clear hB
            go_wp2
            go_returns
            exact ⟨ret_int (by rw [← HX.out, if_neg (by rw [all_noM ms k hlt (by rw [Hm.out]; exact HN.out)]; simp)]), hw2⟩
          | true =>
            have H6 := Lib.hid h6
            have hyes : okM m = true := by
              rw [Bool.and_eq_true] at h6
              simp [okM, inB, h5, h6.1, h6.2, d1, d2, d3, d4]
            have HN := Lib.hid hyes
            clear h5 h6 hyes
            go_wp2_with fail
            refine (within2x 1000000 m.grass m.drinks true H6.out _ _ _ (by repeat (first | with_reducible assumption | with_reducible apply row_here0 | with_reducible apply row_here1 | with_reducible apply row_here2 | with_reducible apply row_here3 | with_reducible apply rowSkip)) (by simp)).mono ?_
            rintro e W2 ⟨rfl, hB⟩
            have hw2 : Below w.heap.size w W2 := hw.trans (Below.trans (by go_grown) (hB.mono (by simp; omega)))
            clear hB
            go_wp2
            exact ⟨⟨k + 1, by omega, by go_num, all_stepM ms k hlt hall.out (by rw [Hm.out]; exact HN.out), hw2⟩, by simp [intOf]; omega⟩
      · have HN := Lib.hid (okM_no h1)
        have h1' : m.hours < 0 ∨ 24 < m.hours ∨ m.load < 0 ∨ 1000000 < m.load := by omega
        clear h1
        go_wp2
        all_goals
          go_returns
          exact ⟨ret_int (by rw [← HX.out, if_neg (by rw [all_noM ms k hlt (by rw [Hm.out]; exact HN.out)]; simp)]), hB0.trans (by go_grown)⟩
    · obtain rfl : k = ms.length := by omega
      go_wp2
      go_returns
      have h := hall.out
      rw [List.take_length] at h
      exact ⟨ret_int (by rw [← HX.out, if_pos h]), hB0⟩
end Go.Proofs.Ytafdcbdbllpcnaa
