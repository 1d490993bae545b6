/- Contracts of package camel's CheckCamel, Fitness and Carries: what they return, for every breed and animal. -/
import Derived.Test.YtafdcbdbllpcnaaLeafE
import Derived.Test.YtafdcbdbllpcnaaRefA
namespace Go.Proofs.Ytafdcbdbllpcnaa
open Go.RowKit
open Go.Proofs

attribute [local go_sem ↓] exec36l exec112l exec36s exec112s exec31s run_min2 run_max2
attribute [local go_sem] load36 load112 store36 store112 store31 build112 rowOf_alloc rowOf_drew setRow_alloc one_int one_bool run_min4

theorem within1s (most : Int) (s : Int × Int) (w : World) (b cap : Nat) (h : rowOf w b = some #[.int .i64 s.1, .int .i64 s.2]) (hb : b < w.heap.size) :
    Calls Try.prog 74 #[.int .i64 most, .slice (some ⟨b, 0, none⟩) 1 cap] w fun e w' => e = .returned (.bool (okSpan most s)) ∧ Below w.heap.size w w' := by
  have := within1 most s w b cap h hb
  simpa using this

/-- Results: a span in a block, and a number. -/
theorem results_row2 {fn : Func} {p q : Tmp} (h : fn.results = #[.cell p 31, .tmp q]) {tmps : Array Value} {w : World} {g : Nat} (hp : tmps.getD p undef = .pointer (some ⟨g, 0, none⟩)) {cs : Array Value} (hg : rowOf w g = some cs) (hs : cs.size = 2) {v : Value} (hq : tmps.getD q undef = v) :
    (results fn tmps).run Try.prog w = .ok (.tuple #[.agg cs, v]) w := by
  obtain ⟨t', hg'⟩ := rowOf_some hg
  have hp' : tmps[p]?.getD undef = .pointer (some ⟨g, 0, none⟩) := by simpa using hp
  have hq' : tmps[q]?.getD undef = v := by simpa using hq
  have hl := run_loadVar_row (P := Try.prog) w g t' 31 cs (0, 0) _ hg' Try.underlying31 rfl (by rw [hs]; kernel_rfl)
  simp [results, h, hp', hq', asAddr, hl]

/-- The error of an animal. -/
def chkC (b : Br) (c : Cm) : Int := if okB b = true then (if okC b c = true then 0 else 11) else 10

set_option maxHeartbeats 4000000 in
theorem CheckCamel_any (b : Br) (c : Cm) (w : World) :
    Calls Try.prog 33 #[.agg #[.int .i64 b.full, .int .i64 b.fed, .int .i64 b.rest.1, .int .i64 b.rest.2, .int .i64 b.heat.1, .int .i64 b.heat.2, .int .i64 b.toil.1, .int .i64 b.toil.2, .int .i64 b.burn.1, .int .i64 b.burn.2, .int .i64 b.rub.1, .int .i64 b.rub.2, .int .i64 b.milk.1, .int .i64 b.milk.2, .int .i64 b.heal, .int .i64 b.strong.1, .int .i64 b.strong.2], .agg #[.int .i64 c.water.1, .int .i64 c.water.2, .int .i64 c.fat.1, .int .i64 c.fat.2, .int .i64 c.sore.1, .int .i64 c.sore.2, .bool c.milks]] w fun e w' => e = .returned (.int .i64 (chkC b c)) ∧ Below w.heap.size w w' := by
  cases hb : okB b with
  | false =>
    have hv : chkC b c = 10 := by simp [chkC, hb]
    rw [hv]
    have hcall := fun w => CheckBreed_any b w
    simp only [hb, Bool.false_eq_true, if_false] at hcall
    have HC := Lib.hid hcall
    clear hcall hv hb
    go_enter Try.func33, Try.ntmps33
    go_wp2_with fail
    refine (HC.out _).mono ?_
    rintro e W ⟨rfl, hB⟩
    have hw : Below w.heap.size w W := Below.trans (by go_grown) (hB.mono (by go_size))
    clear hB
    go_wp2
    go_returns
    exact ⟨rfl, hw⟩
  | true =>
    have hv : chkC b c = if okC b c = true then 0 else 11 := by simp [chkC, hb]
    rw [hv]
    have hcall := fun w => CheckBreed_any b w
    simp only [hb, if_true] at hcall
    have HC := Lib.hid hcall
    clear hcall hv hb
    go_enter Try.func33, Try.ntmps33
    go_wp2_with fail
    refine (HC.out _).mono ?_
    rintro e W1 ⟨rfl, hB⟩
    have hW1 : Below w.heap.size w W1 := Below.trans (by go_grown) (hB.mono (by simp; try omega))
    have zW1 := hW1.size
    obtain ⟨raW1, caW1, gaW1, zaW1⟩ := keep_row hB (g := w.heap.size) (by repeat (first | with_reducible assumption | with_reducible apply row_here0 | with_reducible apply row_here1 | with_reducible apply row_here2 | with_reducible apply row_here3 | with_reducible apply rowSkip))
    obtain ⟨rbW1, cbW1, gbW1, zbW1⟩ := keep_row hB (g := w.heap.size + 1) (by repeat (first | with_reducible assumption | with_reducible apply row_here0 | with_reducible apply row_here1 | with_reducible apply row_here2 | with_reducible apply row_here3 | with_reducible apply rowSkip))
    clear hB
    go_wp2_with (go_at_call 74; refine (within1s _ _ _ _ _ (row_here0 _ _ _) (by simp)).mono ?_; rintro e W ⟨rfl, hB⟩; obtain ⟨r1, c1, -, s1⟩ := keep_row hB (g := w.heap.size) (by repeat (first | with_reducible assumption | with_reducible apply row_here0 | with_reducible apply row_here1 | with_reducible apply row_here2 | with_reducible apply row_here3 | with_reducible apply rowSkip)); obtain ⟨r2, c2, -, s2⟩ := keep_row hB (g := w.heap.size + 1) (by repeat (first | with_reducible assumption | with_reducible apply row_here0 | with_reducible apply row_here1 | with_reducible apply row_here2 | with_reducible apply row_here3 | with_reducible apply rowSkip)); have hw : Below w.heap.size w W := Below.trans (by go_grown) (hB.mono (by go_size)); clear hB)
    all_goals go_returns
    all_goals refine ⟨ret_int ?_, by first | assumption | go_grown⟩
    all_goals try simp only [Bool.not_eq_true', Bool.not_eq_false', Bool.not_eq_true] at *
    all_goals clear HC hw
    all_goals simp_all [okC]

/-- With an error all other results are zero. -/
def fitR (b : Br) (c : Cm) : Int × Int := if chkC b c = 0 then fitS b c else (0, 0)
def carR (b : Br) (c : Cm) : Int × Int := if chkC b c = 0 then carS b c else (0, 0)
theorem chkC_ok {b : Br} {c : Cm} (h : chkC b c = 0) : BdB b ∧ BdC b c := by
  unfold chkC at h
  cases hb : okB b with
  | false => simp [hb] at h
  | true =>
    cases hc : okC b c with
    | false => simp [hb, hc] at h
    | true => exact ⟨okB_bd hb, okC_bd hc⟩

set_option maxHeartbeats 4000000 in
theorem Fitness_any (b : Br) (c : Cm) (w : World) :
    Calls Try.prog 23 #[.agg #[.int .i64 b.full, .int .i64 b.fed, .int .i64 b.rest.1, .int .i64 b.rest.2, .int .i64 b.heat.1, .int .i64 b.heat.2, .int .i64 b.toil.1, .int .i64 b.toil.2, .int .i64 b.burn.1, .int .i64 b.burn.2, .int .i64 b.rub.1, .int .i64 b.rub.2, .int .i64 b.milk.1, .int .i64 b.milk.2, .int .i64 b.heal, .int .i64 b.strong.1, .int .i64 b.strong.2], .agg #[.int .i64 c.water.1, .int .i64 c.water.2, .int .i64 c.fat.1, .int .i64 c.fat.2, .int .i64 c.sore.1, .int .i64 c.sore.2, .bool c.milks]] w fun e w' => e = .returned (.tuple #[.agg #[.int .i64 (fitR b c).1, .int .i64 (fitR b c).2], .int .i64 (chkC b c)]) ∧ Below w.heap.size w w' := by
  by_cases h0 : chkC b c = 0
  · obtain ⟨hb, hc⟩ := chkC_ok h0
    have hv : fitR b c = fitS b c := by rw [fitR, if_pos h0]
    rw [hv, h0]
    have hcall := fun w => CheckCamel_any b c w
    simp only [h0] at hcall
    have HC := Lib.hid hcall
    clear hcall hv h0
    go_enter Try.func23, Try.ntmps23
    go_wp2_with fail
    refine (HC.out _).mono ?_
    rintro e W1 ⟨rfl, hB⟩
    have hW1 : Below w.heap.size w W1 := Below.trans (by go_grown) (hB.mono (by simp; try omega))
    have zW1 := hW1.size
    obtain ⟨raW1, caW1, gaW1, zaW1⟩ := keep_row hB (g := w.heap.size) (by repeat (first | with_reducible assumption | with_reducible apply row_here0 | with_reducible apply row_here1 | with_reducible apply row_here2 | with_reducible apply row_here3 | with_reducible apply rowSkip))
    obtain ⟨rbW1, cbW1, gbW1, zbW1⟩ := keep_row hB (g := w.heap.size + 1) (by repeat (first | with_reducible assumption | with_reducible apply row_here0 | with_reducible apply row_here1 | with_reducible apply row_here2 | with_reducible apply row_here3 | with_reducible apply rowSkip))
    obtain ⟨rcW1, ccW1, gcW1, zcW1⟩ := keep_row hB (g := w.heap.size + 1 + 1) (by repeat (first | with_reducible assumption | with_reducible apply row_here0 | with_reducible apply row_here1 | with_reducible apply row_here2 | with_reducible apply row_here3 | with_reducible apply rowSkip))
    clear hB
    go_wp2_with fail
    refine (atWork_any b c _).mono ?_
    rintro e W2 ⟨rfl, hB⟩
    have hW2 : Below w.heap.size w W2 := hW1.trans (Below.trans (by have := hW1.size; go_grown) (hB.mono (by have := hW1.size; simp; try omega)))
    have zW2 := hW2.size
    obtain ⟨rcW2, ccW2, gcW2, zcW2⟩ := keep_row hB (g := w.heap.size + 1 + 1) (by repeat (first | with_reducible assumption | with_reducible apply row_here0 | with_reducible apply row_here1 | with_reducible apply row_here2 | with_reducible apply row_here3 | with_reducible apply rowSkip))
    clear hB
    go_wp2_with fail
    refine (fitness_any b c _ hb hc).mono ?_
    rintro e W3 ⟨rfl, hB⟩
    have hW3 : Below w.heap.size w W3 := hW2.trans (Below.trans (by have := hW2.size; go_grown) (hB.mono (by have := hW2.size; simp; try omega)))
    have zW3 := hW3.size
    obtain ⟨rcW3, ccW3, gcW3, zcW3⟩ := keep_row hB (g := w.heap.size + 1 + 1) (by repeat (first | with_reducible assumption | with_reducible apply row_here0 | with_reducible apply row_here1 | with_reducible apply row_here2 | with_reducible apply row_here3 | with_reducible apply rowSkip))
    clear hB
    go_wp2
    exact bodyPost_ret (results_row2 Try.results23 rfl (stored_setRow rcW3 _).row rfl (v := .int .i64 0) rfl) rfl ⟨rfl, Below_setRow hW3 (by omega) _⟩
  · have hv : fitR b c = (0, 0) := by rw [fitR, if_neg h0]
    rw [hv]
    obtain ⟨x, hx⟩ : ∃ x, chkC b c = x := ⟨_, rfl⟩
    rw [hx] at h0
    have hcall := fun w => CheckCamel_any b c w
    simp only [hx] at hcall ⊢
    have HC := Lib.hid hcall
    have hne : (x == 0) = false := by simpa using h0
    clear hcall hv h0 hx
    go_enter Try.func23, Try.ntmps23
    go_wp2_with fail
    refine (HC.out _).mono ?_
    rintro e W1 ⟨rfl, hB⟩
    have hW1 : Below w.heap.size w W1 := Below.trans (by go_grown) (hB.mono (by simp; try omega))
    have zW1 := hW1.size
    obtain ⟨raW1, caW1, gaW1, zaW1⟩ := keep_row hB (g := w.heap.size) (by repeat (first | with_reducible assumption | with_reducible apply row_here0 | with_reducible apply row_here1 | with_reducible apply row_here2 | with_reducible apply row_here3 | with_reducible apply rowSkip))
    obtain ⟨rbW1, cbW1, gbW1, zbW1⟩ := keep_row hB (g := w.heap.size + 1) (by repeat (first | with_reducible assumption | with_reducible apply row_here0 | with_reducible apply row_here1 | with_reducible apply row_here2 | with_reducible apply row_here3 | with_reducible apply rowSkip))
    obtain ⟨rcW1, ccW1, gcW1, zcW1⟩ := keep_row hB (g := w.heap.size + 1 + 1) (by repeat (first | with_reducible assumption | with_reducible apply row_here0 | with_reducible apply row_here1 | with_reducible apply row_here2 | with_reducible apply row_here3 | with_reducible apply rowSkip))
    clear hB
    go_wp2
    exact bodyPost_ret (results_row2 Try.results23 rfl (stored_setRow rcW1 _).row rfl (v := .int .i64 x) rfl) rfl ⟨rfl, Below_setRow hW1 (by omega) _⟩

set_option maxHeartbeats 4000000 in
theorem Carries_any (b : Br) (c : Cm) (w : World) :
    Calls Try.prog 28 #[.agg #[.int .i64 b.full, .int .i64 b.fed, .int .i64 b.rest.1, .int .i64 b.rest.2, .int .i64 b.heat.1, .int .i64 b.heat.2, .int .i64 b.toil.1, .int .i64 b.toil.2, .int .i64 b.burn.1, .int .i64 b.burn.2, .int .i64 b.rub.1, .int .i64 b.rub.2, .int .i64 b.milk.1, .int .i64 b.milk.2, .int .i64 b.heal, .int .i64 b.strong.1, .int .i64 b.strong.2], .agg #[.int .i64 c.water.1, .int .i64 c.water.2, .int .i64 c.fat.1, .int .i64 c.fat.2, .int .i64 c.sore.1, .int .i64 c.sore.2, .bool c.milks]] w fun e w' => e = .returned (.tuple #[.agg #[.int .i64 (carR b c).1, .int .i64 (carR b c).2], .int .i64 (chkC b c)]) ∧ Below w.heap.size w w' := by
  by_cases h0 : chkC b c = 0
  · obtain ⟨hb, hc⟩ := chkC_ok h0
    have hv : carR b c = carS b c := by rw [carR, if_pos h0]
    rw [hv, h0]
    have hcall := fun w => CheckCamel_any b c w
    simp only [h0] at hcall
    have HC := Lib.hid hcall
    clear hcall hv h0
    go_enter Try.func28, Try.ntmps28
    go_wp2_with fail
    refine (HC.out _).mono ?_
    rintro e W1 ⟨rfl, hB⟩
    have hW1 : Below w.heap.size w W1 := Below.trans (by go_grown) (hB.mono (by simp; try omega))
    have zW1 := hW1.size
    obtain ⟨raW1, caW1, gaW1, zaW1⟩ := keep_row hB (g := w.heap.size) (by repeat (first | with_reducible assumption | with_reducible apply row_here0 | with_reducible apply row_here1 | with_reducible apply row_here2 | with_reducible apply row_here3 | with_reducible apply rowSkip))
    obtain ⟨rbW1, cbW1, gbW1, zbW1⟩ := keep_row hB (g := w.heap.size + 1) (by repeat (first | with_reducible assumption | with_reducible apply row_here0 | with_reducible apply row_here1 | with_reducible apply row_here2 | with_reducible apply row_here3 | with_reducible apply rowSkip))
    obtain ⟨rcW1, ccW1, gcW1, zcW1⟩ := keep_row hB (g := w.heap.size + 1 + 1) (by repeat (first | with_reducible assumption | with_reducible apply row_here0 | with_reducible apply row_here1 | with_reducible apply row_here2 | with_reducible apply row_here3 | with_reducible apply rowSkip))
    clear hB
    go_wp2_with fail
    refine (atWork_any b c _).mono ?_
    rintro e W2 ⟨rfl, hB⟩
    have hW2 : Below w.heap.size w W2 := hW1.trans (Below.trans (by have := hW1.size; go_grown) (hB.mono (by have := hW1.size; simp; try omega)))
    have zW2 := hW2.size
    obtain ⟨rcW2, ccW2, gcW2, zcW2⟩ := keep_row hB (g := w.heap.size + 1 + 1) (by repeat (first | with_reducible assumption | with_reducible apply row_here0 | with_reducible apply row_here1 | with_reducible apply row_here2 | with_reducible apply row_here3 | with_reducible apply rowSkip))
    clear hB
    go_wp2_with fail
    refine (carries_any b c _ hb hc).mono ?_
    rintro e W3 ⟨rfl, hB⟩
    have hW3 : Below w.heap.size w W3 := hW2.trans (Below.trans (by have := hW2.size; go_grown) (hB.mono (by have := hW2.size; simp; try omega)))
    have zW3 := hW3.size
    obtain ⟨rcW3, ccW3, gcW3, zcW3⟩ := keep_row hB (g := w.heap.size + 1 + 1) (by repeat (first | with_reducible assumption | with_reducible apply row_here0 | with_reducible apply row_here1 | with_reducible apply row_here2 | with_reducible apply row_here3 | with_reducible apply rowSkip))
    clear hB
    go_wp2
    exact bodyPost_ret (results_row2 Try.results28 rfl (stored_setRow rcW3 _).row rfl (v := .int .i64 0) rfl) rfl ⟨rfl, Below_setRow hW3 (by omega) _⟩
  · have hv : carR b c = (0, 0) := by rw [carR, if_neg h0]
    rw [hv]
    obtain ⟨x, hx⟩ : ∃ x, chkC b c = x := ⟨_, rfl⟩
    rw [hx] at h0
    have hcall := fun w => CheckCamel_any b c w
    simp only [hx] at hcall ⊢
    have HC := Lib.hid hcall
    have hne : (x == 0) = false := by simpa using h0
    clear hcall hv h0 hx
    go_enter Try.func28, Try.ntmps28
    go_wp2_with fail
    refine (HC.out _).mono ?_
    rintro e W1 ⟨rfl, hB⟩
    have hW1 : Below w.heap.size w W1 := Below.trans (by go_grown) (hB.mono (by simp; try omega))
    have zW1 := hW1.size
    obtain ⟨raW1, caW1, gaW1, zaW1⟩ := keep_row hB (g := w.heap.size) (by repeat (first | with_reducible assumption | with_reducible apply row_here0 | with_reducible apply row_here1 | with_reducible apply row_here2 | with_reducible apply row_here3 | with_reducible apply rowSkip))
    obtain ⟨rbW1, cbW1, gbW1, zbW1⟩ := keep_row hB (g := w.heap.size + 1) (by repeat (first | with_reducible assumption | with_reducible apply row_here0 | with_reducible apply row_here1 | with_reducible apply row_here2 | with_reducible apply row_here3 | with_reducible apply rowSkip))
    obtain ⟨rcW1, ccW1, gcW1, zcW1⟩ := keep_row hB (g := w.heap.size + 1 + 1) (by repeat (first | with_reducible assumption | with_reducible apply row_here0 | with_reducible apply row_here1 | with_reducible apply row_here2 | with_reducible apply row_here3 | with_reducible apply rowSkip))
    clear hB
    go_wp2
    exact bodyPost_ret (results_row2 Try.results28 rfl (stored_setRow rcW1 _).row rfl (v := .int .i64 x) rfl) rfl ⟨rfl, Below_setRow hW1 (by omega) _⟩

end Go.Proofs.Ytafdcbdbllpcnaa
