/- Contracts of the smallest functions of package camel: what each returns, for all numbers; only new memory is written. -/
import Derived.Test.YtafdcbdbllpcnaaProg
import Derived.WalkKit
import Derived.WalkLawsBesides
import Derived.Handy
import Derived.Outline
import Derived.Test.YtafdcbdbllpcnaaSpec
import Derived.Lib.Hide
import Derived.RegionTactic
import Derived.BigRegion
import Derived.Deep.Light
namespace Go.Proofs.Ytafdcbdbllpcnaa
open Go.RowKit
open Go.Proofs

theorem exactly_any (n : Int) (w : World) :
    Calls Try.prog 77 #[.int .i64 n] w fun e w' => e = .returned (.agg #[.int .i64 n, .int .i64 n]) ∧ Below w.heap.size w w' := by
  go_enter Try.func77, Try.ntmps77
  go_wp2
  go_returns
  exact ⟨rfl, by go_grown⟩
end Go.Proofs.Ytafdcbdbllpcnaa
/- Contracts of the functions of package camel that take any number of spans. -/
namespace Go.Proofs.Ytafdcbdbllpcnaa
open Go.RowKit
open Go.Proofs

/-- The spans of a list lie one behind the other in a block. -/
def SpansAt (w : World) (b off : Nat) (ss : List (Int × Int)) : Prop :=
  ∀ k, k < ss.length → w.cell? ⟨b, off + k * 2, none⟩ = some (.int .i64 (ss[k]?.getD (0, 0)).1) ∧ w.cell? ⟨b, off + k * 2 + 1, none⟩ = some (.int .i64 (ss[k]?.getD (0, 0)).2)

theorem ret_bool {a b : Bool} (h : a = b) : Ending.returned (.bool a) = .returned (.bool b) := by rw [h]
theorem ret_int {k : IntKind} {a b : Int} (h : a = b) : Ending.returned (.int k a) = .returned (.int k b) := by rw [h]
theorem ret_span {a b : Int × Int} (h : a = b) : Ending.returned (.agg #[.int .i64 a.1, .int .i64 a.2]) = .returned (.agg #[.int .i64 b.1, .int .i64 b.2]) := by rw [h]

theorem all_step (most : Int) (ss : List (Int × Int)) (k : Nat) (h : k < ss.length) (ha : (ss.take k).all (okSpan most) = true) (a : 0 ≤ ss[k].1) (b : ss[k].1 ≤ ss[k].2) (c : ss[k].2 ≤ most) : (ss.take (k + 1)).all (okSpan most) = true := by
  rw [List.take_succ_eq_append_getElem h, List.all_append, ha]
  simp [okSpan, a, b, c]
theorem all_no (most : Int) (ss : List (Int × Int)) (k : Nat) (h : k < ss.length) (hn : ss[k].1 < 0 ∨ ss[k].2 < ss[k].1 ∨ most < ss[k].2) : ss.all (okSpan most) = false := by
  rw [List.all_eq_false]
  refine ⟨ss[k], List.getElem_mem h, ?_⟩
  simp only [okSpan, Bool.and_eq_true, decide_eq_true_eq]
  omega

set_option maxHeartbeats 400000 in
theorem within_any (most : Int) (b off cap : Nat) (ss : List (Int × Int)) (w : World) (hs : SpansAt w b off ss) (hb : b < w.heap.size) (hl : ss.length ≤ 1000) :
    Calls Try.prog 74 #[.int .i64 most, .slice (some ⟨b, off, none⟩) ss.length cap] w fun e w' => e = .returned (.bool (ss.all (okSpan most))) ∧ Below w.heap.size w w' := by
  have HS := Lib.hid hs
  clear hs
  go_enter Try.func74, Try.ntmps74
  go_wp2
  go_loopw [9] (fun i wr => ∃ k : Nat, k ≤ ss.length ∧ i = .int .i64 k ∧ Hid ((ss.take k).all (okSpan most) = true) ∧ Below w.heap.size w wr) (fun i _ => ss.length - (intOf i).toNat)
  case atStart => exact ⟨0, Nat.zero_le _, rfl, by simp [Hid], Below.refl _ _⟩
  case round =>
    obtain ⟨k, hk, rfl, hall, hB⟩ := hrel
    by_cases hlt : k < ss.length
    · obtain ⟨c0, c1⟩ := HS.out k hlt
      rw [← hB.cell (p := ⟨b, off + k * 2, none⟩) hb] at c0
      rw [← hB.cell (p := ⟨b, off + k * 2 + 1, none⟩) hb] at c1
      have hg := hB.size
      go_wp2
      case roundEnd => exact ⟨⟨k + 1, by omega, by go_num, all_step most ss k hlt hall.out (by assumption) (by assumption) (by omega), hB.alloc hg _⟩, by simp [intOf]; omega⟩
      all_goals
        go_returns
        exact ⟨ret_bool (all_no most ss k hlt (by omega)).symm, hB.alloc hg _⟩
    · obtain rfl : k = ss.length := by omega
      go_wp2
      go_returns
      have h := hall.out
      rw [List.take_length] at h
      exact ⟨ret_bool h.symm, hB⟩

end Go.Proofs.Ytafdcbdbllpcnaa
/- Contracts of package camel's sum and scaled at two and three spans: what they return, for all numbers within bounds. -/
namespace Go.Proofs.Ytafdcbdbllpcnaa
open Go.RowKit
open Go.Proofs

/-- A cell of a world stands in every world that is as it was below a bound. -/
theorem at_below {B : Nat} {w w' : World} {a : Addr} {v : Value} (hB : Below B w w') (h : a.block < B) (hc : w.cell? a = some v) : w'.cell? a = some v := (hB.cell (p := a) h).trans hc
theorem alloc3 {w : World} {b o : Nat} {v : Value} (hb : b < w.heap.size) (hc : w.cell? ⟨b, o, none⟩ = some v) : ∀ o1 o2 o3, (((w.alloc o1).alloc o2).alloc o3).cell? ⟨b, o, none⟩ = some v := fun o1 o2 o3 =>
  at_below (B := w.heap.size) (by go_grown) hb hc
theorem alloc4 {w : World} {b o : Nat} {v : Value} (hb : b < w.heap.size) (hc : w.cell? ⟨b, o, none⟩ = some v) : ∀ o1 o2 o3 o4, ((((w.alloc o1).alloc o2).alloc o3).alloc o4).cell? ⟨b, o, none⟩ = some v := fun o1 o2 o3 o4 =>
  at_below (B := w.heap.size) (by go_grown) hb hc

set_option maxHeartbeats 400000 in
theorem sum2_any (a1 a2 b1 b2 : Int) (b cap : Nat) (w : World) (hb : b < w.heap.size)
    (c0 : w.cell? ⟨b, 0, none⟩ = some (.int .i64 a1)) (c1 : w.cell? ⟨b, 1, none⟩ = some (.int .i64 a2))
    (c2 : w.cell? ⟨b, 2, none⟩ = some (.int .i64 b1)) (c3 : w.cell? ⟨b, 3, none⟩ = some (.int .i64 b2))
    (ha1 : -1000000000000000 ≤ a1) (ha1' : a1 ≤ 1000000000000000) (ha2 : -1000000000000000 ≤ a2) (ha2' : a2 ≤ 1000000000000000)
    (hb1 : -1000000000000000 ≤ b1) (hb1' : b1 ≤ 1000000000000000) (hb2 : -1000000000000000 ≤ b2) (hb2' : b2 ≤ 1000000000000000) :
    Calls Try.prog 85 #[.slice (some ⟨b, 0, none⟩) 2 cap] w fun e w' => e = .returned (.agg #[.int .i64 (a1 + b1), .int .i64 (a2 + b2)]) ∧ Below w.heap.size w w' := by
  have d2 := alloc3 hb c2
  have d3 := alloc3 hb c3
  go_enter Try.func85, Try.ntmps85
  go_wp2
  go_rounds 3
  all_goals go_returns
  all_goals exact ⟨rfl, by go_grown⟩

set_option maxHeartbeats 400000 in
theorem sum3_any (a1 a2 b1 b2 e1 e2 : Int) (b cap : Nat) (w : World) (hb : b < w.heap.size)
    (c0 : w.cell? ⟨b, 0, none⟩ = some (.int .i64 a1)) (c1 : w.cell? ⟨b, 1, none⟩ = some (.int .i64 a2))
    (c2 : w.cell? ⟨b, 2, none⟩ = some (.int .i64 b1)) (c3 : w.cell? ⟨b, 3, none⟩ = some (.int .i64 b2))
    (c4 : w.cell? ⟨b, 4, none⟩ = some (.int .i64 e1)) (c5 : w.cell? ⟨b, 5, none⟩ = some (.int .i64 e2))
    (ha1 : -1000000000000000 ≤ a1) (ha1' : a1 ≤ 1000000000000000) (ha2 : -1000000000000000 ≤ a2) (ha2' : a2 ≤ 1000000000000000)
    (hb1 : -1000000000000000 ≤ b1) (hb1' : b1 ≤ 1000000000000000) (hb2 : -1000000000000000 ≤ b2) (hb2' : b2 ≤ 1000000000000000)
    (he1 : -1000000000000000 ≤ e1) (he1' : e1 ≤ 1000000000000000) (he2 : -1000000000000000 ≤ e2) (he2' : e2 ≤ 1000000000000000) :
    Calls Try.prog 85 #[.slice (some ⟨b, 0, none⟩) 3 cap] w fun e w' => e = .returned (.agg #[.int .i64 (a1 + b1 + e1), .int .i64 (a2 + b2 + e2)]) ∧ Below w.heap.size w w' := by
  have d2 := alloc3 hb c2
  have d3 := alloc3 hb c3
  have d4 := alloc4 hb c4
  have d5 := alloc4 hb c5
  go_enter Try.func85, Try.ntmps85
  go_wp2
  go_rounds 4
  all_goals go_returns
  all_goals exact ⟨rfl, by go_grown⟩

theorem mul_bd {x y : Int} (hx : 0 ≤ x) (hy : 0 ≤ y) : 0 ≤ x * y := Int.mul_nonneg hx hy

set_option maxHeartbeats 400000 in
theorem scaled2_any (d a1 a2 b1 b2 : Int) (b cap : Nat) (w : World) (hb : b < w.heap.size)
    (c0 : w.cell? ⟨b, 0, none⟩ = some (.int .i64 a1)) (c1 : w.cell? ⟨b, 1, none⟩ = some (.int .i64 a2))
    (c2 : w.cell? ⟨b, 2, none⟩ = some (.int .i64 b1)) (c3 : w.cell? ⟨b, 3, none⟩ = some (.int .i64 b2))
    (hd : 1 ≤ d) (hd' : d ≤ 1000000000000000)
    (ha1 : 0 ≤ a1) (ha1' : a1 ≤ 1000000000000000) (ha2 : 0 ≤ a2) (ha2' : a2 ≤ 1000000000000000)
    (hp1 : 0 ≤ a1 * b1) (hp1' : a1 * b1 ≤ 1000000000000000) (hp2 : 0 ≤ a2 * b2) (hp2' : a2 * b2 ≤ 1000000000000000) :
    Calls Try.prog 86 #[.int .i64 d, .slice (some ⟨b, 0, none⟩) 2 cap] w fun e w' => e = .returned (.agg #[.int .i64 (a1 * b1 / d), .int .i64 ((a2 * b2 + d - 1) / d)]) ∧ Below w.heap.size w w' := by
  have d0 := alloc3 hb c0
  have d1 := alloc3 hb c1
  have d2 := alloc4 hb c2
  have d3 := alloc4 hb c3
  go_enter Try.func86, Try.ntmps86
  go_wp2
  go_rounds 3
  go_region
  all_goals go_wp2
  all_goals go_returns
  all_goals exact ⟨rfl, by go_grown⟩

/-- What lay before a call lies there behind it. -/
theorem bcell {W w1 : World} (hb : Below W.heap.size W w1) : (∀ b o, b < W.heap.size → w1.cell? ⟨b, o, none⟩ = W.cell? ⟨b, o, none⟩) ∧ (∀ b o, b < W.heap.size → w1.frozen? ⟨b, o, none⟩ = W.frozen? ⟨b, o, none⟩) ∧ W.heap.size ≤ w1.heap.size :=
  ⟨fun b o h => hb.cell (p := ⟨b, o, none⟩) h, fun b o h => hb.frozen (p := ⟨b, o, none⟩) h, hb.size⟩
end Go.Proofs.Ytafdcbdbllpcnaa
