/- Contracts of the smallest functions of package camel: what each returns, for all numbers; only new memory is written. -/
import Derived.Test.YtafdcbdbllpcnaaProg
import Derived.WalkKit
import Derived.WalkLawsBesides
import Derived.Handy
import Derived.Outline
import Derived.Test.YtafdcbdbllpcnaaBig
import Derived.Lib.Hide
namespace Go.Proofs.Ytafdcbdbllpcnaa
open Go.RowKit
open Go.Proofs

theorem exactly_any (n : Int) (w : World) :
    Calls Try.prog 77 #[.int .i64 n] w fun e w' => e = .returned (.agg #[.int .i64 n, .int .i64 n]) ∧ Below w.heap.size w w' := by
  go_enter Try.func77, Try.ntmps77
  go_wp2
  go_returns
  exact ⟨rfl, by go_grown⟩
end Go.Proofs.Ytafdcbdbllpcnaa
/- Contracts of the functions of package camel that take any number of spans. -/
namespace Go.Proofs.Ytafdcbdbllpcnaa
open Go.RowKit
open Go.Proofs

/-- The spans of a list lie one behind the other in a block. -/
def SpansAt (w : World) (b off : Nat) (ss : List (Int × Int)) : Prop :=
  ∀ k, k < ss.length → w.cell? ⟨b, off + k * 2, none⟩ = some (.int .i64 (ss[k]?.getD (0, 0)).1) ∧ w.cell? ⟨b, off + k * 2 + 1, none⟩ = some (.int .i64 (ss[k]?.getD (0, 0)).2)

theorem ret_bool {a b : Bool} (h : a = b) : Ending.returned (.bool a) = .returned (.bool b) := by rw [h]
theorem ret_int {k : IntKind} {a b : Int} (h : a = b) : Ending.returned (.int k a) = .returned (.int k b) := by rw [h]
theorem ret_span {a b : Int × Int} (h : a = b) : Ending.returned (.agg #[.int .i64 a.1, .int .i64 a.2]) = .returned (.agg #[.int .i64 b.1, .int .i64 b.2]) := by rw [h]

theorem all_step (most : Int) (ss : List (Int × Int)) (k : Nat) (h : k < ss.length) (ha : (ss.take k).all (okSpan most) = true) (a : 0 ≤ ss[k].1) (b : ss[k].1 ≤ ss[k].2) (c : ss[k].2 ≤ most) : (ss.take (k + 1)).all (okSpan most) = true := by
  rw [List.take_succ_eq_append_getElem h, List.all_append, ha]
  simp [okSpan, a, b, c]
theorem all_no (most : Int) (ss : List (Int × Int)) (k : Nat) (h : k < ss.length) (hn : ss[k].1 < 0 ∨ ss[k].2 < ss[k].1 ∨ most < ss[k].2) : ss.all (okSpan most) = false := by
  rw [List.all_eq_false]
  refine ⟨ss[k], List.getElem_mem h, ?_⟩
  simp only [okSpan, Bool.and_eq_true, decide_eq_true_eq]
  omega

set_option maxHeartbeats 400000 in
theorem within_any (most : Int) (b off cap : Nat) (ss : List (Int × Int)) (w : World) (hs : SpansAt w b off ss) (hb : b < w.heap.size) (hl : ss.length ≤ 1000) :
    Calls Try.prog 74 #[.int .i64 most, .slice (some ⟨b, off, none⟩) ss.length cap] w fun e w' => e = .returned (.bool (ss.all (okSpan most))) ∧ Below w.heap.size w w' := by
  have HS := Lib.hid hs
  clear hs
  go_enter Try.func74, Try.ntmps74
  go_wp2
  go_loopw [9] (fun i wr => ∃ k : Nat, k ≤ ss.length ∧ i = .int .i64 k ∧ Hid ((ss.take k).all (okSpan most) = true) ∧ Below w.heap.size w wr) (fun i _ => ss.length - (intOf i).toNat)
  case atStart => exact ⟨0, Nat.zero_le _, rfl, by simp [Hid], Below.refl _ _⟩
  case round =>
    obtain ⟨k, hk, rfl, hall, hB⟩ := hrel
    by_cases hlt : k < ss.length
    · obtain ⟨c0, c1⟩ := HS.out k hlt
      rw [← hB.cell (p := ⟨b, off + k * 2, none⟩) hb] at c0
      rw [← hB.cell (p := ⟨b, off + k * 2 + 1, none⟩) hb] at c1
      have hg := hB.size
      go_wp2
      case roundEnd => exact ⟨⟨k + 1, by omega, by go_num, all_step most ss k hlt hall.out (by assumption) (by assumption) (by omega), hB.alloc hg _⟩, by simp [intOf]; omega⟩
      all_goals
        go_returns
        exact ⟨ret_bool (all_no most ss k hlt (by omega)).symm, hB.alloc hg _⟩
    · obtain rfl : k = ss.length := by omega
      go_wp2
      go_returns
      have h := hall.out
      rw [List.take_length] at h
      exact ⟨ret_bool h.symm, hB⟩

end Go.Proofs.Ytafdcbdbllpcnaa
