/- Contracts of the reference's within, spanned, Breed, Camel and March: what they return, for every argument. -/
import Derived.Test.YtafdcbdbllpcnaaLeafD
namespace Go.Proofs.Ytafdcbdbllpcnaa
open Go.RowKit
open Go.Proofs

attribute [local go_sem ↓] exec36l exec112l exec36s exec112s exec31s run_min2 run_max2
attribute [local go_sem] load36 load112 store36 store112 store31 build112 rowOf_alloc rowOf_drew setRow_alloc one_int one_bool run_min4

theorem rwithin_any (n lo hi : Int) (w : World) :
    Calls Try.prog 82 #[.int .i64 n, .int .i64 lo, .int .i64 hi] w fun e w' => e = .returned (.bool (inB lo hi n)) ∧ w = w' := by
  go_enter Try.func82, Try.ntmps82
  go_wp2
  all_goals go_returns
  all_goals exact ⟨ret_bool (by simp [inB]; omega), rfl⟩

theorem sp_yes {hi : Int} {s : Int × Int} (h : inB 0 s.2 s.1 = true) : decide (s.2 ≤ hi) = okSpan hi s := by
  simp only [inB, Bool.and_eq_true, decide_eq_true_eq] at h
  simp [okSpan, h]
theorem sp_no {hi : Int} {s : Int × Int} (h : ¬inB 0 s.2 s.1 = true) : false = okSpan hi s := by
  simp only [inB, Bool.and_eq_true, decide_eq_true_eq] at h
  symm
  rw [← Bool.not_eq_true]
  simp only [okSpan, Bool.and_eq_true, decide_eq_true_eq]
  omega
theorem spanned_any (hi : Int) (s : Int × Int) (w : World) :
    Calls Try.prog 81 #[.agg #[.int .i64 s.1, .int .i64 s.2], .int .i64 0, .int .i64 hi] w fun e w' => e = .returned (.bool (okSpan hi s)) ∧ Below w.heap.size w w' := by
  go_enter Try.func81, Try.ntmps81
  go_wp2_with (go_at_call 82; refine (rwithin_any _ _ _ _).mono ?_; rintro e w' ⟨rfl, rfl⟩)
  all_goals go_returns
  · exact ⟨ret_bool (sp_yes (by assumption)), by go_grown⟩
  · exact ⟨ret_bool (sp_no (by assumption)), by go_grown⟩

set_option maxHeartbeats 4000000 in
theorem rBreed_any (b : Br) (w : World) :
    Calls Try.prog 71 #[.agg #[.int .i64 b.full, .int .i64 b.fed, .int .i64 b.rest.1, .int .i64 b.rest.2, .int .i64 b.heat.1, .int .i64 b.heat.2, .int .i64 b.toil.1, .int .i64 b.toil.2, .int .i64 b.burn.1, .int .i64 b.burn.2, .int .i64 b.rub.1, .int .i64 b.rub.2, .int .i64 b.milk.1, .int .i64 b.milk.2, .int .i64 b.heal, .int .i64 b.strong.1, .int .i64 b.strong.2]] w fun e w' => e = .returned (.bool (refB b)) ∧ Below w.heap.size w w' := by
  go_enter Try.func71, Try.ntmps71
  go_wp2_with (first | (go_at_call 82; refine (rwithin_any _ _ _ _).mono ?_; rintro e w' ⟨rfl, rfl⟩) | (go_at_call 81; refine (spanned_any _ _ _).mono ?_; rintro e W ⟨rfl, hB⟩; obtain ⟨r, c, -, s⟩ := keep_row hB (g := w.heap.size) (by repeat (first | with_reducible assumption | with_reducible apply row_here0 | with_reducible apply row_here1 | with_reducible apply row_here2 | with_reducible apply row_here3 | with_reducible apply rowSkip)); have hw : Below w.heap.size w W := Below.trans (by go_grown) (hB.mono (by go_size)); clear hB))
  all_goals go_returns
  all_goals refine ⟨ret_bool ?_, by first | assumption | go_grown⟩
  all_goals try simp only [Bool.not_eq_true', Bool.not_eq_false', Bool.not_eq_true] at *
  all_goals simp [refB, *]

set_option maxHeartbeats 4000000 in
theorem rMarch_any (m : Mr) (w : World) :
    Calls Try.prog 72 #[.agg #[.int .i64 m.hours, .int .i64 m.load, .int .i64 m.heat.1, .int .i64 m.heat.2, .int .i64 m.grass.1, .int .i64 m.grass.2, .int .i64 m.drinks.1, .int .i64 m.drinks.2]] w fun e w' => e = .returned (.bool (okM m)) ∧ Below w.heap.size w w' := by
  go_enter Try.func72, Try.ntmps72
  go_wp2_with (first | (go_at_call 82; refine (rwithin_any _ _ _ _).mono ?_; rintro e w' ⟨rfl, rfl⟩) | (go_at_call 81; refine (spanned_any _ _ _).mono ?_; rintro e W ⟨rfl, hB⟩; obtain ⟨r, c, -, s⟩ := keep_row hB (g := w.heap.size) (by repeat (first | with_reducible assumption | with_reducible apply row_here0 | with_reducible apply row_here1 | with_reducible apply row_here2 | with_reducible apply row_here3 | with_reducible apply rowSkip)); have hw : Below w.heap.size w W := Below.trans (by go_grown) (hB.mono (by go_size)); clear hB))
  all_goals go_returns
  all_goals refine ⟨ret_bool ?_, by first | assumption | go_grown⟩
  all_goals try simp only [Bool.not_eq_true', Bool.not_eq_false', Bool.not_eq_true] at *
  all_goals simp [okM, *]
end Go.Proofs.Ytafdcbdbllpcnaa
