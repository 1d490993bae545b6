/- Contract of the reference's SameInts at two lists of the same numbers. -/
import Derived.Test.YtafdcbdbllpcnaaMeetT
import Derived.Deep.QuietTactic
import Derived.BigQuiet
namespace Go.Proofs.Ytafdcbdbllpcnaa
open Go.RowKit
open Go.Proofs

theorem sameInts_some (b1 o1 p1 b2 o2 p2 : Nat) (xs : List Int) (w : World) (h1 : IntsAt w b1 o1 xs) (h2 : IntsAt w b2 o2 xs) (l1 : b1 < w.heap.size) (l2 : b2 < w.heap.size) (hl : xs.length ≤ 100000) :
    Calls Try.prog 43 #[.slice (some ⟨b1, o1, none⟩) xs.length p1, .slice (some ⟨b2, o2, none⟩) xs.length p2] w fun e w' => e = .returned (.bool true) ∧ Below w.heap.size w w' := by
  have H1 := Lib.hid h1
  have H2 := Lib.hid h2
  clear h1 h2
  go_enter Try.func43, Try.ntmps43
  go_wp2_with fail
  go_loopw [5] (fun i wr => ∃ k : Nat, k ≤ xs.length ∧ i = .int .i64 k ∧ Below w.heap.size w wr) (fun i _ => xs.length - (intOf i).toNat)
  case atStart => exact ⟨0, Nat.zero_le _, rfl, Below.refl _ _⟩
  case round =>
    obtain ⟨k, hk, rfl, hB0⟩ := hrel
    by_cases hlt : k < xs.length
    · have c0 := at_belowb hB0 l1 (H1.out k hlt)
      have d0 := at_belowb hB0 l2 (H2.out k hlt)
      generalize xs[k] = x at c0 d0
      have hlt' : (k : Int) < (xs.length : Int) := by omega
      go_wp2_with fail
      go_quiet (fail)
      go_wp2
      exact ⟨⟨k + 1, by omega, by go_num, below_drewN hB0 _⟩, by simp [intOf]; omega⟩
    · obtain rfl : k = xs.length := by omega
      go_wp2
      go_returns
      exact ⟨rfl, hB0⟩
theorem sameInts_zero (a1 a2 : Option Addr) (p1 p2 : Nat) (w : World) :
    Calls Try.prog 43 #[.slice a1 0 p1, .slice a2 0 p2] w fun e w' => e = .returned (.bool true) ∧ Below w.heap.size w w' := by
  go_enter Try.func43, Try.ntmps43
  go_wp2
  go_rounds 1
  all_goals go_returns
  all_goals exact ⟨rfl, Below.refl _ _⟩
theorem sameInts_any {w : World} {a1 a2 : Option Addr} {p1 p2 n : Nat} {xs : List Int} (hn : n = xs.length) (h1 : IntsIn w a1 p1 xs) (h2 : IntsIn w a2 p2 xs) (hl : xs.length ≤ 100000) :
    Calls Try.prog 43 #[.slice a1 n p1, .slice a2 n p2] w fun e w' => e = .returned (.bool true) ∧ Below w.heap.size w w' := by
  subst hn
  match xs, h1, h2, hl with
  | [], _, _, _ => exact sameInts_zero a1 a2 p1 p2 w
  | c :: cs, h1, h2, hl =>
    rcases h1 with ⟨-, -, h⟩ | ⟨g1, o1, rfl, q1, l1⟩
    · cases h
    · rcases h2 with ⟨-, -, h⟩ | ⟨g2, o2, rfl, q2, l2⟩
      · cases h
      · exact sameInts_some g1 o1 p1 g2 o2 p2 (c :: cs) w q1 q2 l1 l2 hl
end Go.Proofs.Ytafdcbdbllpcnaa
