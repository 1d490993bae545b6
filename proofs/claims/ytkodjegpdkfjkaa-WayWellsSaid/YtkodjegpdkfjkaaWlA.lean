/- Contracts of the smallest functions of package way and of its reference: numbers and spans. -/
import Derived.Test.YtkodjegpdkfjkaaProg
import Derived.Test.YtkodjegpdkfjkaaDrawn
import Derived.Test.YtkodjegpdkfjkaaWlS
import Derived.WalkKit
import Derived.Lib.Hide
import Derived.WalkLawsBesides
import Derived.Handy
import Derived.Outline
set_option linter.unusedVariables false
set_option linter.unusedSimpArgs false
namespace Go.Proofs.Ytkodjegpdkfjkaa
open Go.RowKit
open Go.Proofs

theorem ret_bool {a b : Bool} (h : a = b) : Ending.returned (.bool a) = .returned (.bool b) := by rw [h]
theorem inRange_any (n lo hi : Int) (w : World) :
    Calls Try.prog 68 #[.int .i64 n, .int .i64 lo, .int .i64 hi] w fun e w' => e = .returned (.bool (okN n lo hi)) ∧ Below w.heap.size w w' := by
  go_enter Try.func68, Try.ntmps68
  go_wp2
  all_goals go_returns
  all_goals exact ⟨ret_bool (by simp [okN, *]; try omega), by go_grown⟩
theorem within_any (n lo hi : Int) (w : World) :
    Calls Try.prog 79 #[.int .i64 n, .int .i64 lo, .int .i64 hi] w fun e w' => e = .returned (.bool (okN n lo hi)) ∧ Below w.heap.size w w' := by
  go_enter Try.func79, Try.ntmps79
  go_wp2
  all_goals go_returns
  all_goals exact ⟨ret_bool (by simp [okN, *]; try omega), by go_grown⟩
theorem inRange_x (n lo hi : Int) (x : Bool) (hx : okN n lo hi = x) (w : World) :
    Calls Try.prog 68 #[.int .i64 n, .int .i64 lo, .int .i64 hi] w fun e w' => e = .returned (.bool x) ∧ Below w.heap.size w w' := by subst hx; exact inRange_any n lo hi w
theorem within_x (n lo hi : Int) (x : Bool) (hx : okN n lo hi = x) (w : World) :
    Calls Try.prog 79 #[.int .i64 n, .int .i64 lo, .int .i64 hi] w fun e w' => e = .returned (.bool x) ∧ Below w.heap.size w w' := by subst hx; exact within_any n lo hi w
set_option maxHeartbeats 1000000 in
theorem validSpan_any (s : Int × Int) (lo hi : Int) (w : World) :
    Calls Try.prog 90 #[.agg #[.int .i64 s.1, .int .i64 s.2], .int .i64 lo, .int .i64 hi] w fun e w' => e = .returned (.bool (okSp s lo hi)) ∧ Below w.heap.size w w' := by
  go_enter Try.func90, Try.ntmps90
  go_wp2
  all_goals go_returns
  all_goals exact ⟨ret_bool (by simp [okSp, *]; try omega), by go_grown⟩
set_option maxHeartbeats 1000000 in
theorem spanned_any (s : Int × Int) (lo hi : Int) (w : World) :
    Calls Try.prog 103 #[.agg #[.int .i64 s.1, .int .i64 s.2], .int .i64 lo, .int .i64 hi] w fun e w' => e = .returned (.bool (okSp s lo hi)) ∧ Below w.heap.size w w' := by
  cases h1 : okN s.1 lo s.2 with
  | false =>
    have H := Lib.hid h1
    have e : okSp s lo hi = false := by simp only [okN, okSp] at *; simp [h1]
    rw [e]
    clear h1 e
    go_enter Try.func103, Try.ntmps103
    go_wp2_with fail
    refine (within_x _ _ _ false H.out _).mono ?_
    rintro e W1 ⟨rfl, hB⟩
    have hW1 : Below w.heap.size w W1 := Below.trans (by go_grown) (hB.mono (by simp; try omega))
    have zW1 := hW1.size
    obtain ⟨rsW1, csW1, gsW1, zsW1⟩ := keep_row hB (g := w.heap.size) (by repeat (first | with_reducible assumption | with_reducible apply row_here0 | with_reducible apply row_here1 | with_reducible apply row_here2 | with_reducible apply row_here3 | with_reducible apply rowSkip))
    clear hB
    go_wp2
    go_returns
    exact ⟨rfl, hW1⟩
  | true =>
    have H := Lib.hid h1
    have e : okSp s lo hi = decide (s.2 ≤ hi) := by simp only [okN, okSp] at *; simp [h1]
    rw [e]
    clear h1 e
    go_enter Try.func103, Try.ntmps103
    go_wp2_with fail
    refine (within_x _ _ _ true H.out _).mono ?_
    rintro e W1 ⟨rfl, hB⟩
    have hW1 : Below w.heap.size w W1 := Below.trans (by go_grown) (hB.mono (by simp; try omega))
    have zW1 := hW1.size
    obtain ⟨rsW1, csW1, gsW1, zsW1⟩ := keep_row hB (g := w.heap.size) (by repeat (first | with_reducible assumption | with_reducible apply row_here0 | with_reducible apply row_here1 | with_reducible apply row_here2 | with_reducible apply row_here3 | with_reducible apply rowSkip))
    clear hB
    go_wp2
    go_returns
    exact ⟨rfl, hW1⟩
theorem validSpan_x (s : Int × Int) (lo hi : Int) (x : Bool) (hx : okSp s lo hi = x) (w : World) :
    Calls Try.prog 90 #[.agg #[.int .i64 s.1, .int .i64 s.2], .int .i64 lo, .int .i64 hi] w fun e w' => e = .returned (.bool x) ∧ Below w.heap.size w w' := by subst hx; exact validSpan_any s lo hi w
theorem spanned_x (s : Int × Int) (lo hi : Int) (x : Bool) (hx : okSp s lo hi = x) (w : World) :
    Calls Try.prog 103 #[.agg #[.int .i64 s.1, .int .i64 s.2], .int .i64 lo, .int .i64 hi] w fun e w' => e = .returned (.bool x) ∧ Below w.heap.size w w' := by subst hx; exact spanned_any s lo hi w
theorem validDay_x (n : Int) (x : Bool) (hx : okN n 0 100000 = x) (w : World) :
    Calls Try.prog 62 #[.int .i64 n] w fun e w' => e = .returned (.bool x) ∧ Below w.heap.size w w' := by
  have H := Lib.hid hx
  clear hx
  go_enter Try.func62, Try.ntmps62
  go_wp2_with fail
  refine (inRange_x _ _ _ x H.out _).mono ?_
  rintro e W1 ⟨rfl, hB⟩
  have hW1 : Below w.heap.size w W1 := Below.trans (by go_grown) (hB.mono (by simp; try omega))
  have zW1 := hW1.size
  clear hB
  go_wp2
  go_returns
  exact ⟨rfl, hW1⟩
theorem isWell_x (n : Int) (a : Option Addr) (len cap : Nat) (x : Bool) (hx : okN n 0 ((len : Int) - 1) = x) (hl : len ≤ 100000) (w : World) :
    Calls Try.prog 66 #[.int .i64 n, .slice a len cap] w fun e w' => e = .returned (.bool x) ∧ Below w.heap.size w w' := by
  have H := Lib.hid hx
  clear hx
  go_enter Try.func66, Try.ntmps66
  go_wp2_with fail
  refine (inRange_x n 0 ((len : Int) - 1) x H.out _).mono ?_
  rintro e W1 ⟨rfl, hB⟩
  have hW1 : Below w.heap.size w W1 := Below.trans (by go_grown) (hB.mono (by simp; try omega))
  have zW1 := hW1.size
  clear hB
  go_wp2
  go_returns
  exact ⟨rfl, hW1⟩
theorem divided_x (n by_ q : Int) (hq : (n + by_ - 1) / by_ = q) (h0 : 0 ≤ n) (h1 : n ≤ 1000000000000000) (h2 : 1 ≤ by_) (h3 : by_ ≤ 1000000000) (w : World) :
    Calls Try.prog 69 #[.int .i64 n, .int .i64 by_] w fun e w' => e = .returned (.int .i64 q) ∧ Below w.heap.size w w' := by
  have ht : Int.tdiv (n + by_ - 1) by_ = q := by rw [Int.tdiv_eq_ediv_of_nonneg (by omega), hq]
  have hne : by_ ≠ 0 := by omega
  have hne1 : by_ ≠ -1 := by omega
  have q0 : 0 ≤ q := hq ▸ Int.ediv_nonneg (by omega) (by omega)
  have q1 : q ≤ n + by_ - 1 := hq ▸ Int.ediv_le_self _ (by omega)
  clear hq
  go_enter Try.func69, Try.ntmps69
  go_wp2
  go_returns
  exact ⟨rfl, by go_grown⟩
end Go.Proofs.Ytkodjegpdkfjkaa
